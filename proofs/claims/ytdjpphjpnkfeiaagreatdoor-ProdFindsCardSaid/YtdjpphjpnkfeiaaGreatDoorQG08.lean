/-
 A ROW OF PLACES IN A SLICE OF ITS OWN, made; the maker's states, rows and tags grow: what add does. Condition: at most 2^20 states.
-/
import Derived.Test.YtdjpphjpnkfeiaaGreatDoorQG07
namespace Go.Proofs.YtdjpphjpnkfeiaaGreatDoor
section
open Go.RowKit
attribute [local irreducible] FreeW textFrame
theorem xzhj (f:Nat->Bool)(W:World):(Instr.buildSlice 123 1 #[(0,.agg (rowA f))]).run Tryz.prog W=.ok (.slice (some ⟨W.heap.size,0,none⟩) 1 1) (W.alloc (.cells (rowA f) 127)):=by
 kernel_rfl
theorem xzfh {P:Program}{o:Oper}{ev:Operand->Value}{w w':World}{v x:Value}(t:TypeId)(y:Operand)(hop:o.op=Op.buildSlice t 1 #[(0,y)])(hy:ev y=x)
 (hrun:(Instr.buildSlice t 1 #[(0,x)]).run P w=.ok v w'):(execOp ev o).run P w=.ok (.value v) w':=by
 unfold execOp;simp only [hop,List.map_toArray,List.map_cons,List.map_nil,hy,Sem.run_bind,Sem.run_pure,hrun,Result.andThen_ok]
theorem xzdb {P:Program}{o:Oper}{a:Act}{w:World}{v:Value}(t:TypeId)(x:Operand)(p:Value)(ho:o.op=.load t x)(hx:a.eval x=p)(h:(Instr.loadAt t p).run P w=.ok v w):(execOp a.eval o).run P w=.ok (.value v) w:=by
 unfold execOp;simp only [ho,hx,Sem.run_bind,Sem.run_pure,h,Result.andThen_ok]
theorem xzhk (n:Nat)(h:n<=1099511627776)(w:World):(Instr.makeSlice 26 (.int .i64 (n:Nat)) (.int .i64 (n:Nat))).run Tryz.prog w=.ok (.slice (some ⟨w.heap.size,0,none⟩) n n) (w.alloc (.cells (cellsN n fun _=>.int .i64 0) 3)):=by
 have e:madeCells #[Value.int .i64 0] n=cellsN n fun _=>.int .i64 0:=by
  unfold madeCells cellsN
  apply Array.ext'
  simp [Nat.mod_one]
 rw [<-e];exact run_make_row' (P:=Tryz.prog) 26 3 (.int .i64 0) 8 Tryz.underlying26 xzdi rfl .i64 .i64 n (by omega) (by omega) w
def noneF (k:Nat):Nat->Value:=fun i=>if i<k then .int .i64 (-1)else .int .i64 0
theorem xzyz (k:Nat):putV (noneF k) k (.int .i64 (-1))=noneF (k+1):=by
 funext i;unfold putV noneF
 by_cases h:i=k
 ·subst h;rw [if_pos rfl,if_pos (by omega)]
 ·rw [if_neg h]
  by_cases h2:i<k
  ·rw [if_pos h2,if_pos (by omega)]
  ·rw [if_neg h2,if_neg (by omega)]
theorem xzll:(fun _=>Value.int .i64 0)=noneF 0:=by
 funext i;unfold noneF;rw [if_neg (by omega)]
theorem xzza {W:World}{g:Nat}{t:TypeId}{C:Nat}(h:BlkF W g t C (noneF C)):BlkF W g t C (intF (List.replicate C (-1))):=by
 have e:cellsN C (noneF C)=cellsN C (intF (List.replicate C (-1))):=xzap fun i hi=>by
  unfold noneF intF;rw [if_pos hi,List.getD_eq_getElem?_getD,List.getElem?_replicate,if_pos hi];rfl
 unfold BlkF at h ⊢;rw [<-e];exact h
theorem xzbj {W:World}{B:Nat}{t:TypeId}{z n:Nat}{v:Value}{xs:List Value}(h:W.ownsRow B t z v n xs):∃ A c,v=.slice A n c/\(n<=c/\c<=9223372036854775807):=by
 rcases h.2 with⟨rfl,rfl⟩|⟨g,cap,cur,rfl,_,_,h1,h2,_⟩
 ·exact⟨none,0,rfl,by omega,by omega⟩
 ·exact⟨_,cap,rfl,h1,by unfold maxLen at h2;omega⟩
set_option maxRecDepth 20000 in
set_option maxHeartbeats 16000000 in
theorem xzpo (p:SP)(ρ:Nat->Nat)(D:SD)(V:MkV)(bs:Nat->Nat)(w:World)(h:SM p ρ D V bs w)(x:List Int)(t:Int)(hC:p.C<=256)(hn:D.L.length<=1048576/\D.nxt.length<=1048576/\D.T.length<=1048576):
 Calls Tryz.prog 86 #[.pointer (some ⟨p.g,0,none⟩),.agg (rowA (setOf x)),.int .i64 t] w fun e w'=>e=.returned (.tuple #[])/\∃ ρ' V' bs',SM p ρ' {D with L:=D.L++[x],nxt:=D.nxt++[List.replicate p.C (-1)],T:=D.T++[t]} V' bs' w'/\V'.reach=V.reach/\
  w.heap.size<=w'.heap.size/\(∀ k,k<w.heap.size->ρ' k=ρ k)/\(∀ k,k<w.heap.size->ρ k=0->w'.heap[k]? =w.heap[k]?)/\w'.ownsRow p.B 26 1 V.next D.nxt.length (hdrs bs p.C D.nxt.length)/\(∀ i,i<D.nxt.length->bs' i=bs i):=by
 obtain⟨W1,hW1⟩:∃ W1,(w.alloc (.cells (rowA (setOf x)) 127))=W1:=⟨_,rfl⟩;obtain⟨W2,hW2⟩:∃ W2,(W1.alloc (.cells (cellsN p.C fun _=>.int .i64 0) 3))=W2:=⟨_,rfl⟩
 have hs1:W1.heap.size=w.heap.size+1:=by rw [<-hW1];simp
 have hb1:Below w.heap.size w W1:=by rw [<-hW1];exact(Below.refl _ _).alloc (Nat.le_refl _) _
 have hb2:Below w.heap.size w W2:=by rw [<-hW2];exact hb1.alloc (by omega) _
 have hs2:W2.heap.size=w.heap.size+2:=by rw [<-hW2];simp [hs1]
 have hx1:RowAt W2 w.heap.size 0 (setOf x):=by rw [<-hW2,<-hW1];exact(BlkF.row (newF w _ _) (xzbm _)).alloc _
 have hr2:BlkF W2 (w.heap.size+1) 3 p.C (noneF 0):=by rw [<-hW2,<-xzll,<-hs1];exact BlkIs.new W1 _ _
 have hmk:=xzhk p.C (by omega) W1;rw [hW2,hs1]at hmk;have HSM:=zd h;obtain⟨c256,_⟩:=(h.step hb1).cells;have HB:=zd (And.intro hb2 (And.intro hx1 hr2));have HS2:=zd hs2;have HNN:=zd hn;clear h hb2 hx1 hr2 hb1
 go_enter Tryz.func86,Tryz.ntmps86
 go_wp2
 go_loopw [7,17] (fun _ i wr=>∃ k:Nat,i=.int .i64 k/\k<=p.C/\Hid (Below w.heap.size w wr/\RowAt wr w.heap.size 0 (setOf x)/\BlkF wr (w.heap.size+1) 3 p.C (noneF k)/\wr.heap.size=w.heap.size+2)) (fun _ i _=>p.C - (intOf i).toNat)
 case atStart=>exact⟨0,rfl,Nat.zero_le _,zd ⟨HB.out.1,HB.out.2.1,HB.out.2.2,HS2.out⟩⟩
 case round=>
  obtain⟨k,rfl,hk,HH⟩:=hrel
  by_cases hp:k<p.C
  ·have hk1:IntKind.i64.wrap ((k:Int)+1)=((k+1:Nat):Int):=by rw [IntKind.wrap_i64];omega
   have hdl:decide ((k:Int)<(p.C:Int))=true:=by simp;omega
   have hc:=BlkF.cell HH.out.2.2.1 hp;have hfz:=BlkIs.frozen HH.out.2.2.1 k
   have HN:=zd (show Below w.heap.size w (wr.setCell ⟨w.heap.size+1,k,none⟩ (.int .i64 (-1)))/\RowAt (wr.setCell ⟨w.heap.size+1,k,none⟩ (.int .i64 (-1))) w.heap.size 0 (setOf x)/\BlkF (wr.setCell ⟨w.heap.size+1,k,none⟩ (.int .i64 (-1))) (w.heap.size+1) 3 p.C (noneF (k+1))/\(wr.setCell ⟨w.heap.size+1,k,none⟩ (.int .i64 (-1))).heap.size=w.heap.size+2 from
    ⟨HH.out.1.setCell (p:=⟨w.heap.size+1,k,none⟩) (by show w.heap.size<=w.heap.size+1;omega) _,HH.out.2.1.heap (Below.heap_setCell _ _ _ _ (by show w.heap.size≠w.heap.size+1;omega)),by rw [<-xzyz];exact HH.out.2.2.1.put _ _,by rw [World.size_setCell];exact HH.out.2.2.2⟩)
   go_wp2;exact⟨⟨k+1,rfl,hp,HN⟩,by simp [intOf];omega⟩
  ·have hdl:decide ((k:Int)<(p.C:Int))=false:=by simp;omega
   obtain rfl:k=p.C:=by omega
   obtain⟨w2,rfl⟩:∃ w2,w2=wr:=⟨_,rfl⟩;have h0:=(HSM.out.role (some (w.heap.size+1)) (8+D.nxt.length) (fun k e=>.inr (by injection e;omega))).step HH.out.1;have hall:=xzza HH.out.2.2.1;have hsz:=HH.out.2.2.2;have HC0:=zd (And.intro (h0.st (fun h=>h)) (And.intro HH.out.2.1 h0.cells.2.2.2.2.2.2.2.2.2.2.2.1));have HOW:=zd (show ∀ k,V.sts.ownBlock=some k->k<w.heap.size from fun k hk=>(World.ownsRow.lt (HSM.out.st (fun h=>h)) k hk).2);have HRO:=zd (And.intro h0.ro.1 h0.ro.2.2.2.2.1);have HLN:=zd (And.intro HNN.out.1 h0.size);have HGL:=zd (show p.g<w2.heap.size from BlkIs.lt (h0.blk (fun h=>h)));have HOW2:=zd (show ∀ k,V.sts.ownBlock=some k->k<w2.heap.size from fun k hk=>by have:=HOW.out k hk;omega);have H0:=zd h0;have HALL:=zd hall;have HBW:=zd HH.out.1;clear h0 hall HH HB hmk c256
   go_wp2_with fail
   refine xzaf 10 58 (fun u=>Hid (Tn V.sts.ownBlock w2 u/\RowsP p.B u V.sts (D.L.map setOf)/\RowAt u w.heap.size 0 (setOf x)/\u.cell? ⟨p.g,267,none⟩=some V.sts)) (fun i u u'=>(i=7->u.grownBy u' V.sts.ownBlock/\RowsP p.B u' V.sts (D.L.map setOf))/\(i≠7->Below u.heap.size u u'))
    (fun i v u=>match i with
     |0=>v=.pointer (some ⟨p.g,0,none⟩)
     |1=>v=.pointer (some ⟨p.g,0,none⟩)
     |2=>v=.pointer (some ⟨p.g,0,none⟩)
     |3=>v=.pointer (some ⟨p.g,267,none⟩)
     |4=>v=V.sts
     |5=>v=.agg (rowA (setOf x))
     |6=>∃ b,v=.slice (some ⟨b,0,none⟩) 1 1/\RowAt u b 0 (setOf x)/\w2.heap.size<=b
     |7=>RowsP p.B u v (D.L.map setOf++[setOf x])/\(v.ownBlock=V.sts.ownBlock\/ ∃ b,v.ownBlock=some b/\w2.heap.size<=b)
     |8=>v=.pointer (some ⟨p.g,0,none⟩)
     |9=>v=.pointer (some ⟨p.g,267,none⟩)
     |_=>True) (by kernel_rfl) (by kernel_rfl) rfl (zd ⟨Tn.below (Below.refl _ _).drew,HC0.out.1.heap (fun _ _=>rfl),HC0.out.2.1.heap rfl,HC0.out.2.2⟩) ?_ ?_ ?_ ?_
   ·intro i u u' hix hC hr
    by_cases hi7:i=7
    ·obtain⟨g1,g2⟩:=hr.1 hi7
     have n1:V.sts.ownBlock≠some p.g:=fun e=>by have:=HRO.out.2 _ e;rw [HRO.out.1]at this;cases this
     have n2:V.sts.ownBlock≠some w.heap.size:=fun e=>by have:=HOW.out _ e;omega
     exact zd ⟨hC.out.1.trans (Tn.grown g1),g2,hC.out.2.2.1.heap ((Tn.grown g1).2.1 _ (by have:=hC.out.1.1;omega) n2),(xzbi ((Tn.grown g1).2.1 _ (by have:=hC.out.1.1;have:=HGL.out;omega) n1)).trans hC.out.2.2.2⟩
    ·have hb:=hr.2 hi7
     exact zd ⟨hC.out.1.trans (Tn.below hb),hC.out.2.1.heap (fun k hk=>hb.block k (World.ownsRow.lt hC.out.2.1 k hk).2),hC.out.2.2.1.step hb,(hb.cell (p:=⟨p.g,267,none⟩) (by have:=hC.out.1.1;have:=HGL.out;show p.g<u.heap.size;omega)).trans hC.out.2.2.2⟩
   ·intro i j v u u' hix hj hne hv hr
    match i,hix,hne,hv with
    |0,_,_,hv=>exact hv
    |1,_,_,hv=>exact hv
    |2,_,_,hv=>exact hv
    |3,_,_,hv=>exact hv
    |4,_,_,hv=>exact hv
    |5,_,_,hv=>exact hv
    |6,_,hne,hv=>
     obtain⟨b,e1,e2,e3⟩:=hv;refine⟨b,e1,?_,e3⟩
     by_cases hj7:j=7
     ·exact e2.heap ((hr.1 hj7).1.block b (World.block_lt_of_cell? u ⟨b,0+0,none⟩ (e2 0 (by decide))) (fun e=>by have:=HOW2.out b e.symm;omega))
     ·exact e2.step (hr.2 hj7)
    |7,_,hne,hv=>
     exact⟨hv.1.heap fun k hk=>(hr.2 (Ne.symm hne)).block k (World.ownsRow.lt hv.1 k hk).2,hv.2⟩
    |8,_,_,hv=>exact hv
    |9,_,_,hv=>exact hv
    |i+10,hix,_,_=>omega
   ·intro i hix vs u hC hw oq ho
    match i,hix,hw,ho with
    |0,_,hw,ho=>
     simp only [zq,zh]at ho;subst ho;refine⟨rfl,?_⟩;have k267:=hC.out.2.2.2;have hro:=hC.out.2.2.1;clear hw;simp only [xzaa,tmpsTo];go_simp;exact xzab (Below.refl _ _) rfl
    |1,_,hw,ho=>
     simp only [zq,zh]at ho;subst ho;refine⟨rfl,?_⟩;have k267:=hC.out.2.2.2;have hro:=hC.out.2.2.1;clear hw;simp only [xzaa,tmpsTo,putT,zr];go_simp;exact xzab (Below.refl _ _) rfl
    |2,_,hw,ho=>
     have e1:vs 1=.pointer (some ⟨p.g,0,none⟩):=hw 1 (by omega) (by kernel_rfl);simp only [zq,zh]at ho;subst ho;refine⟨rfl,?_⟩;have k267:=hC.out.2.2.2;have hro:=hC.out.2.2.1;clear hw;simp only [xzaa,tmpsTo,putT,zr];rw [e1];clear e1;go_simp;exact xzab (Below.refl _ _) rfl
    |3,_,hw,ho=>
     have e2:vs 2=.pointer (some ⟨p.g,0,none⟩):=hw 2 (by omega) (by kernel_rfl);simp only [zq,zh]at ho;subst ho;refine⟨rfl,?_⟩;have k267:=hC.out.2.2.2;have hro:=hC.out.2.2.1;clear hw;simp only [xzaa,tmpsTo,putT,zr];rw [e2];clear e2;go_simp;exact xzab (Below.refl _ _) rfl
    |4,_,hw,ho=>
     have e3:vs 3=.pointer (some ⟨p.g,267,none⟩):=hw 3 (by omega) (by kernel_rfl);simp only [zq,zh]at ho;subst ho;refine⟨rfl,?_⟩;have k267:=hC.out.2.2.2;have hro:=hC.out.2.2.1;clear hw;simp only [xzaa,tmpsTo,putT,zr];rw [e3];clear e3;go_simp;exact xzab (Below.refl _ _) rfl
    |5,_,hw,ho=>
     simp only [zq,zh]at ho;subst ho;refine⟨rfl,?_⟩;have k267:=hC.out.2.2.2;have hro:=hC.out.2.2.1;clear hw;simp only [xzaa,tmpsTo,putT,zr];rw [xzdb 127 (.tmp 4) _ rfl rfl (loadRw hro)];exact xzab ⟨fun h=>absurd h (by decide),fun _=>Below.refl _ _⟩ rfl
    |6,_,hw,ho=>
     have e5:vs 5=.agg (rowA (setOf x)):=hw 5 (by omega) (by kernel_rfl);simp only [zq,zh]at ho;subst ho;refine⟨rfl,?_⟩;have k267:=hC.out.2.2.2;have hro:=hC.out.2.2.1;clear hw;simp only [xzaa,tmpsTo,putT,zr];rw [e5];clear e5;rw [xzfh (x:=.agg (rowA (setOf x))) 123 (.tmp 29) rfl rfl (xzhj (setOf x) u)];exact xzab ⟨fun h=>absurd h (by decide),fun _=>(Below.refl _ _).alloc (Nat.le_refl _) _⟩ ⟨_,rfl,BlkF.row (newF _ _ _) (xzbm _),hC.out.1.1⟩
    |7,_,hw,ho=>
     have e4:vs 4=V.sts:=hw 4 (by omega) (by kernel_rfl);obtain⟨b,e6,hb1,hb2⟩:∃ b,vs 6=.slice (some ⟨b,0,none⟩) 1 1/\RowAt u b 0 (setOf x)/\w2.heap.size<=b:=hw 6 (by omega) (by kernel_rfl);simp only [zq,zh]at ho;subst ho;refine⟨rfl,?_⟩;have k267:=hC.out.2.2.2;have hro:=hC.out.2.2.1;clear hw;simp only [xzaa,tmpsTo,putT,zr];rw [e4];clear e4;rw [e6];obtain⟨v',W',hrun,k1,k2,k3,k4⟩:=xzfg hC.out.2.1 hb1 (c:=1) (by have:=HLN.out.1;simp;omega) (by have:=hC.out.1.1;have:=HLN.out.2;omega);rw [xzca (.tmp 28) (.tmp 30) 123 123 rfl rfl rfl hrun];refine xzab ?_ ?_
     ·exact⟨fun _=>⟨k2,k3⟩,fun h=>absurd rfl h⟩
     ·refine⟨k1,?_⟩
      rcases k4 with k4|k4
      ·exact .inl k4
      ·exact .inr ⟨_,k4,hC.out.1.1⟩
    |8,_,hw,ho=>
     have e0:vs 0=.pointer (some ⟨p.g,0,none⟩):=hw 0 (by omega) (by kernel_rfl);simp only [zq,zh]at ho;subst ho;refine⟨rfl,?_⟩;have k267:=hC.out.2.2.2;have hro:=hC.out.2.2.1;clear hw;simp only [xzaa,tmpsTo,putT,zr];rw [e0];clear e0;go_simp;exact xzab (Below.refl _ _) rfl
    |9,_,hw,ho=>
     have e8:vs 8=.pointer (some ⟨p.g,0,none⟩):=hw 8 (by omega) (by kernel_rfl);simp only [zq,zh]at ho;subst ho;refine⟨rfl,?_⟩;have k267:=hC.out.2.2.2;have hro:=hC.out.2.2.1;clear hw;simp only [xzaa,tmpsTo,putT,zr];rw [e8];clear e8;go_simp;exact xzab (Below.refl _ _) rfl
    |i+10,hix,_,_=>omega
   intro vs1 u hC hV;have h7:RowsP p.B u (vs1 7) (D.L.map setOf++[setOf x])/\((vs1 7).ownBlock=V.sts.ownBlock\/ ∃ b,(vs1 7).ownBlock=some b/\w2.heap.size<=b):=hV 7 (by omega);have h9:vs1 9=.pointer (some ⟨p.g,267,none⟩):=hV 9 (by omega);clear hV;simp only [xzaa,tmpsTo,putT,zr,List.drop_succ_cons,List.drop_zero];rw [h9];clear h9;generalize vs1 7=v7 at*;generalize vs1 0=q0;generalize vs1 1=q1;generalize vs1 2=q2;generalize vs1 3=q3;generalize vs1 4=q4;generalize vs1 5=q5;generalize vs1 6=q6;generalize vs1 8=q8
   have r5:=H0.out.role v7.ownBlock 5 (fun k hk=>by
    rcases h7.2 with e|⟨b,e1,e2⟩
    ·exact .inl (H0.out.ro.2.2.2.2.1 k (e▸hk))
    ·rw [e1]at hk;injection hk with hk;exact .inr (by omega))
   have ho5:∀ k,V.sts.ownBlock=some k->p.B<=k/\((fun k=>if v7.ownBlock=some k then 5 else if some (w.heap.size+1)=some k then 8+D.nxt.length else ρ k) k=5\/w2.heap.size<=k):=fun k hk=>⟨(World.ownsRow.lt (r5.st (fun h=>h)) k hk).1,.inl (r5.ro.2.2.2.2.1 k hk)⟩
   obtain⟨s5,b5⟩:=r5.tn2 (by decide) hC.out.1 ho5 267 v7;have f5:=r5.keep0 (by decide) hC.out.1 ho5 267 v7;rw [put_st]at b5
   have hv5:∀ k,v7.ownBlock=some k->(fun k=>if v7.ownBlock=some k then 5 else if some (w.heap.size+1)=some k then 8+D.nxt.length else ρ k) k=5:=fun k hk=>if_pos hk
   have m5:=s5.newSts (x:=x) b5 (by rw [List.map_append];exact h7.1.heap fun k hk=>xzjc r5 (by decide) hv5 267 v7 k hk) hv5
   have n5:BlkF (u.setCell ⟨p.g,267,none⟩ v7) (w.heap.size+1) 3 p.C (intF (List.replicate p.C (-1))):=by
    have e1:V.sts.ownBlock≠some (w.heap.size+1):=fun e=>by have:=HOW.out _ e;omega
    have e2:w.heap.size+1≠p.g:=fun e=>by have:=BlkIs.lt (HSM.out.blk (fun h=>h));omega
    exact((Below.heap_setCell u ⟨p.g,267,none⟩ v7 _ e2).trans (hC.out.1.2.1 _ (by omega) e1)).trans HALL.out
   have hr5:(fun k=>if v7.ownBlock=some k then 5 else if some (w.heap.size+1)=some k then 8+D.nxt.length else ρ k) (w.heap.size+1)=8+D.nxt.length:=by
    have e:v7.ownBlock≠some (w.heap.size+1):=fun e=>by
     rcases h7.2 with e1|⟨b,e1,e2⟩
     ·have:=HOW.out _ (e1▸e);omega
     ·rw [e]at e1;injection e1 with e1;omega
    simp only [if_neg e,if_true]
   have hk5:∀ k,k<w.heap.size->(fun k=>if v7.ownBlock=some k then 5 else if some (w.heap.size+1)=some k then 8+D.nxt.length else ρ k) k=ρ k:=fun k hk=>by
    by_cases e:v7.ownBlock=some k
    ·simp only [if_pos e]
     rcases h7.2 with e1|⟨b,e1,e2⟩
     ·exact(HSM.out.ro.2.2.2.2.1 k (e1▸e)).symm
     ·rw [e]at e1;injection e1 with e1;omega
    ·have e2: ¬ some (w.heap.size+1)=some k:=fun e2=>by injection e2;omega
     simp only [if_neg e,if_neg e2]
   have bu:=((r5.tn (r':=fun k=>k=5) (fun _ h=>h.elim) hC.out.1 ho5).blk (by decide));have fz5:=BlkIs.frozen bu 267;have c267:=hC.out.2.2.2;obtain⟨A7,cc7,e7,hc7⟩:=h7.1.form;rw [show(D.L.map setOf++[setOf x]).length=D.L.length+1 by simp]at e7;subst e7;obtain⟨U1,hU1⟩:∃ U1,u.setCell ⟨p.g,267,none⟩ (.slice A7 (D.L.length+1) cc7)=U1:=⟨_,rfl⟩;rw [hU1]at m5 f5 n5
   have hsz1:w.heap.size+2<=U1.heap.size:=by rw [<-hU1,World.size_setCell];have:=hC.out.1.1;omega
   have F5:=zd (show ∀ k,k<w.heap.size->ρ k=0->U1.heap[k]? =w.heap[k]? from fun k hk h0=>(f5 k (by omega) ((hk5 k hk).trans h0)).trans (HBW.out.block k hk));have M5:=zd (And.intro m5 (And.intro n5 (And.intro hr5 hk5)));clear r5 ho5 s5 b5 f5 hv5 m5 n5 hr5 hk5 bu h7 hC;generalize(fun k=>if(Value.slice A7 (D.L.length+1) cc7).ownBlock=some k then 5 else if some (w.heap.size+1)=some k then 8+D.nxt.length else ρ k)=ρ5 at*
   have hb8:Below U1.heap.size U1 (U1.alloc (.cells #[.slice (some ⟨w.heap.size+1,0,none⟩) p.C p.C] 26)):=(Below.refl _ _).alloc (Nat.le_refl _) _;have hn8:=BlkIs.new U1 26 #[.slice (some ⟨w.heap.size+1,0,none⟩) p.C p.C];obtain⟨v8,W9,hrun8,k1,k2,k3,k4⟩:=xzlk ((M5.out.1.step hb8).nx (fun h=>h)) (b:=U1.heap.size) (c:=1) ((hn8.cell 0).trans rfl) rfl (by show D.nxt.length+1<=_;have:=HNN.out.2.1;omega) (by have:=M5.out.1.size;have:=hb8.size;omega);have t8:Tn V.next.ownBlock U1 W9:=(Tn.below hb8).trans (Tn.grown k2)
   have hv8:v8.ownBlock=V.next.ownBlock\/ ∃ b,v8.ownBlock=some b/\U1.heap.size<=b:=k4.imp id fun e=>⟨_,e,hb8.size⟩
   have r6:=M5.out.1.role v8.ownBlock 6 (fun k hk=>by
    rcases hv8 with e|⟨b,e1,e2⟩
    ·exact .inl (M5.out.1.ro.2.2.2.2.2.1 k (e▸hk))
    ·rw [e1]at hk;injection hk with hk;exact .inr (by omega))
   have ho6:∀ k,V.next.ownBlock=some k->p.B<=k/\((fun k=>if v8.ownBlock=some k then 6 else ρ5 k) k=6\/U1.heap.size<=k):=fun k hk=>⟨(World.ownsRow.lt (r6.nx (fun h=>h)) k hk).1,.inl (r6.ro.2.2.2.2.2.1 k hk)⟩
   have hnn:V.next.ownBlock≠some (w.heap.size+1):=fun e=>by
    have h1:=M5.out.1.ro.2.2.2.2.2.1 _ e;rw [M5.out.2.2.1]at h1;omega
   have hvn:v8.ownBlock≠some (w.heap.size+1):=fun e=>by
    rcases hv8 with e1|⟨b,e1,e2⟩
    ·exact hnn (e1▸e)
    ·rw [e]at e1;injection e1 with e1;omega
   obtain⟨s6,b6⟩:=r6.tn2 (by decide) t8 ho6 257 v8;have f6:=r6.keep0 (by decide) t8 ho6 257 v8;rw [put_nx]at b6
   have hv6:∀ k,v8.ownBlock=some k->(fun k=>if v8.ownBlock=some k then 6 else ρ5 k) k=6:=fun k hk=>if_pos hk
   have e2:w.heap.size+1≠p.g:=fun e=>by have:=BlkIs.lt (HSM.out.blk (fun h=>h));omega
   have m6:=s6.newNxt (l:=List.replicate p.C (-1)) (b:=w.heap.size+1) b6 (xzau k1 fun k hk=>xzjc r6 (by decide) hv6 257 v8 k hk) hv6
    (((Below.heap_setCell W9 ⟨p.g,257,none⟩ v8 _ e2).trans (t8.2.1 _ (by omega) hnn)).trans M5.out.2.1) (by have:=HSM.out.size;omega) (by simp only [if_neg hvn];exact M5.out.2.2.1)
   have hk6:∀ k,k<w.heap.size->(fun k=>if v8.ownBlock=some k then 6 else ρ5 k) k=ρ k:=fun k hk=>by
    by_cases e:v8.ownBlock=some k
    ·simp only [if_pos e]
     rcases hv8 with e1|⟨b,e1,e2⟩
     ·exact(HSM.out.ro.2.2.2.2.2.1 k (e1▸e)).symm
     ·rw [e]at e1;injection e1 with e1;omega
    ·simp only [if_neg e];exact M5.out.2.2.2 k hk
   have d257:=(M5.out.1.cells).2.1
   have hno6:∀ k,V.next.ownBlock=some k->(fun k=>if v8.ownBlock=some k then 6 else ρ5 k) k=6:=fun k hk=>by
    by_cases e:v8.ownBlock=some k
    ·simp only [if_pos e]
    ·simp only [if_neg e];exact M5.out.1.ro.2.2.2.2.2.1 k hk
   have old6:=xzau k3 fun k hk=>xzjc r6 (by decide) hno6 257 v8 k hk
   have bu:=((r6.tn (r':=fun k=>k=6) (fun _ h=>h.elim) t8 ho6).blk (by decide));have fz6:=BlkIs.frozen bu 257;have c257:=(xzaq bu).2.1;obtain⟨A8,cc8,e8,hc8⟩:=xzbj k1;subst e8;obtain⟨U2,hU2⟩:∃ U2,W9.setCell ⟨p.g,257,none⟩ (.slice A8 (D.nxt.length+1) cc8)=U2:=⟨_,rfl⟩;rw [hU2]at m6 f6 old6
   have hsz2:U1.heap.size<=U2.heap.size:=by rw [<-hU2,World.size_setCell];exact t8.1
   have F6:=zd (show ∀ k,k<w.heap.size->ρ k=0->U2.heap[k]? =w.heap[k]? from fun k hk h0=>(f6 k (by omega) ((hk6 k hk).trans h0)).trans (F5.out k hk h0));have M6:=zd (And.intro m6 hk6);have O6:=zd (And.intro old6 hno6);clear r6 ho6 s6 b6 f6 hv6 m6 hk6 bu hv8 k1 k2 k3 k4 hnn hvn hn8 hb8 t8 old6 hno6;generalize(fun k=>if(Value.slice A8 (D.nxt.length+1) cc8).ownBlock=some k then 6 else ρ5 k)=ρ6 at*
   have hb9:Below U2.heap.size U2 (U2.alloc (.cells #[.int .i64 t] 3)):=(Below.refl _ _).alloc (Nat.le_refl _) _;have hn9:=BlkIs.new U2 3 #[.int .i64 t];obtain⟨v9,W10,hrun9,k1,k2,k4⟩:=xzra ((M6.out.1.step hb9).tg (fun h=>h)) (b:=U2.heap.size) (c:=1) ((hn9.cell 0).trans rfl) (by show D.T.length+1<=_;have:=HNN.out.2.2;omega) (by have:=M6.out.1.size;have:=hb9.size;omega);have t9:Tn V.tag.ownBlock U2 W10:=(Tn.below hb9).trans (Tn.grown k2)
   have hv9:v9.ownBlock=V.tag.ownBlock\/ ∃ b,v9.ownBlock=some b/\U2.heap.size<=b:=k4.imp id fun e=>⟨_,e,hb9.size⟩
   have r7:=M6.out.1.role v9.ownBlock 7 (fun k hk=>by
    rcases hv9 with e|⟨b,e1,e2⟩
    ·exact .inl (M6.out.1.ro.2.2.2.2.2.2 k (e▸hk))
    ·rw [e1]at hk;injection hk with hk;exact .inr (by omega))
   have ho7:∀ k,V.tag.ownBlock=some k->p.B<=k/\((fun k=>if v9.ownBlock=some k then 7 else ρ6 k) k=7\/U2.heap.size<=k):=fun k hk=>⟨(World.ownsRow.lt (r7.tg (fun h=>h)) k hk).1,.inl (r7.ro.2.2.2.2.2.2 k hk)⟩
   obtain⟨s7,b7⟩:=r7.tn2 (by decide) t9 ho7 258 v9;have f7:=r7.keep0 (by decide) t9 ho7 258 v9;rw [put_tg]at b7
   have hv7:∀ k,v9.ownBlock=some k->(fun k=>if v9.ownBlock=some k then 7 else ρ6 k) k=7:=fun k hk=>if_pos hk
   have m7:=s7.newTag (t:=t) b7 (xzbd k1 fun k hk=>xzjc r7 (by decide) hv7 258 v9 k hk) hv7
   have hk7:∀ k,k<w.heap.size->(fun k=>if v9.ownBlock=some k then 7 else ρ6 k) k=ρ k:=fun k hk=>by
    by_cases e:v9.ownBlock=some k
    ·simp only [if_pos e]
     rcases hv9 with e1|⟨b,e1,e2⟩
     ·exact(HSM.out.ro.2.2.2.2.2.2 k (e1▸e)).symm
     ·rw [e]at e1;injection e1 with e1;omega
    ·simp only [if_neg e];exact M6.out.2 k hk
   have d258:=(M6.out.1.cells).2.2.1
   have old7:(W10.setCell ⟨p.g,258,none⟩ v9).ownsRow p.B 26 1 V.next D.nxt.length (hdrs bs p.C D.nxt.length):=xzau O6.out.1 fun k hk=>by
    have h6:=O6.out.2 k hk;have hlt:=(World.ownsRow.lt O6.out.1 k hk).2;refine(Below.heap_setCell W10 ⟨p.g,258,none⟩ v9 k (fun e=>?_)).trans (t9.2.1 k hlt fun e=>?_)
    ·have:=M6.out.1.ro.1
     rw [show k=p.g from e,this]at h6;cases h6
    ·have:=M6.out.1.ro.2.2.2.2.2.2 k e
     rw [h6]at this;cases this
   have bu:=((r7.tn (r':=fun k=>k=7) (fun _ h=>h.elim) t9 ho7).blk (by decide));have fz7:=BlkIs.frozen bu 258;have c258:=(xzaq bu).2.2.1;obtain⟨A9,cc9,e9,hc9⟩:=xzbj k1;rw [show(D.T++[t]).length=D.T.length+1 by simp]at e9;subst e9;obtain⟨U3,hU3⟩:∃ U3,W10.setCell ⟨p.g,258,none⟩ (.slice A9 (D.T.length+1) cc9)=U3:=⟨_,rfl⟩;rw [hU3]at m7 f7 old7
   have hsz3:U2.heap.size<=U3.heap.size:=by rw [<-hU3,World.size_setCell];exact t9.1
   have M7:=zd (And.intro m7 (And.intro (show w.heap.size<=U3.heap.size by omega) (And.intro hk7 (And.intro (show ∀ k,k<w.heap.size->ρ k=0->U3.heap[k]? =w.heap[k]? from fun k hk h0=>(f7 k (by omega) ((hk7 k hk).trans h0)).trans (F6.out k hk h0)) (And.intro old7 (show ∀ i,i<D.nxt.length->(fun i=>if i=D.nxt.length then w.heap.size+1 else bs i) i=bs i from fun i hi=>if_neg (by omega)))))));clear r7 ho7 s7 b7 f7 hv7 m7 hk7 bu hv9 k1 k2 k4 hn9 hb9 t9 old7
   go_wp2_with(first|(refine xzan rfl _ _ 25 25 rfl rfl rfl hrun8 ?_)|(refine xzan rfl _ _ 26 26 rfl rfl rfl hrun9 ?_))
   go_end0
   exact⟨rfl,_,_,_,M7.out.1,rfl,M7.out.2⟩
end
section
open Go.RowKit
def tagTo (N:Nf)(f:Nat->Bool):Nat->Int
 |0=> -1
 |k+1=>if f k then tagStep N (tagTo N f k) (k:Int)else tagTo N f k
theorem xzpp (N:Nf)(hR:∀ q,0<=N.ruleAt q/\N.ruleAt q<40)(f:Nat->Bool):∀ n,tagTo N f n= -1\/0<=tagTo N f n
 |0=>.inl rfl
 |n+1=>by
  unfold tagTo tagStep;have:=xzpp N hR f n
  split
  ·split
   ·exact .inr (hR _).1
   ·exact this
  ·exact this
theorem SMx.ints {p:SP}{r:Nat->Prop}{ρ:Nat->Nat}{D:SD}{V:MkV}{bs:Nat->Nat}{W:World}(h:SMx r p ρ D V bs W):IntsV W p.N.rules V.v1/\IntsV W p.N.first V.v2/\BoolsV W p.N.ends V.v4/\SetsV W p.N.sets V.v0:=by
 obtain⟨v0,v1,v2,v3,v4,e,h0,h1,h2,_,h4⟩:=h.nfa
 injection e with e
 injection e with e
 simp only [List.cons.injEq]at e;obtain⟨rfl,rfl,rfl,rfl,rfl,_⟩:=e
 have hb:Below p.W0.heap.size p.W0 W:=by rw [h.low.1];exact h.below
 exact⟨h1.step hb,h2.step hb,h4.step hb,h0.step hb⟩
theorem tag_yes (N:Nf)(f:Nat->Bool)(k:Nat)(h1:N.endAt (k:Int)=true)(h2:f k=true)(h3:tagTo N f k<0\/N.ruleAt (k:Int)<tagTo N f k):tagTo N f (k+1)=N.ruleAt (k:Int):=by
 simp only [tagTo,h2,if_true,tagStep,h1,Bool.true_and];rw [if_pos (by simpa using h3)]
theorem tag_no (N:Nf)(f:Nat->Bool)(k:Nat)(h:N.endAt (k:Int)=false\/f k=false\/(0<=tagTo N f k/\tagTo N f k<=N.ruleAt (k:Int))):tagTo N f (k+1)=tagTo N f k:=by
 rcases h with h|h|h
 ·simp only [tagTo,tagStep,h,Bool.false_and];split<;>simp
 ·simp [tagTo,h]
 ·simp only [tagTo,tagStep]
  split
  ·rw [if_neg (by simp;intro _;omega)]
  ·rfl
set_option maxRecDepth 20000 in
set_option maxHeartbeats 8000000 in
theorem xzzb (p:SP)(ρ:Nat->Nat)(D:SD)(V:MkV)(bs:Nat->Nat)(w:World)(h:SM p ρ D V bs w)(hmi:MayIs p.N)(f:Nat->Bool):
 Calls Tryz.prog 110 #[.pointer (some ⟨p.g,0,none⟩),.agg (rowA f)] w fun e w'=>e=.returned (.int .i64 (tagTo p.N f p.N.rules.length))/\Below w.heap.size w w':=by
 obtain⟨W1,hW1⟩:∃ W1,(w.alloc (.cells (rowA f) 127))=W1:=⟨_,rfl⟩
 have hb1:Below w.heap.size w W1:=by rw [<-hW1];exact(Below.refl _ _).alloc (Nat.le_refl _) _
 have hx1:RowAt W1 w.heap.size 0 f:=by rw [<-hW1];exact BlkF.row (newF w _ _) (xzbm _)
 obtain⟨hi1,_,hi4,_⟩:=h.ints;obtain⟨A1,c1,e1,hc1,hg1⟩:=hi1;obtain⟨A4,c4,e4,hc4,hg4⟩:=hi4;have HC:=zd (fun(u:World) (hu:Below w.heap.size w u)=>(h.step hu).cells);rw [e1,e4]at HC;have HG1:=zd hg1;have HG4:=zd hg4;have HB:=zd (And.intro hb1 hx1);have HLE:=zd (show p.N.ends.length=p.N.rules.length/\p.N.rules.length<=2000 from⟨by rw [hmi.ends,hmi.rules],by rw [hmi.rules];exact hmi.small⟩);have HLO:=zd (xzpp p.N hmi.ruleAt f);have HRU:=zd (fun k=>(hmi.ruleAt (k:Int)));obtain⟨_,_,_,_,b260,_,_,b263,_⟩:=HC.out W1 hb1;clear h hmi hb1 hx1 hg1 hg4
 go_enter Tryz.func110,Tryz.ntmps110
 go_wp2
 go_loopw [5,6,7,14] (fun le _ _ i wr=>∃ k:Nat,i=.int .i64 k/\k<=p.N.rules.length/\le=.int .i64 (tagTo p.N f k)/\Hid (Below w.heap.size w wr/\RowAt wr w.heap.size 0 f)) (fun _ _ _ i _=>p.N.rules.length - (intOf i).toNat)
 case atStart=>exact⟨0,rfl,Nat.zero_le _,rfl,HB⟩
 case round=>
  obtain⟨k,rfl,hk,rfl,HH⟩:=hrel;clear b260 b263
  by_cases hp:k<p.N.rules.length
  ·have hk1:IntKind.i64.wrap ((k:Int)+1)=((k+1:Nat):Int):=by rw [IntKind.wrap_i64];omega
   have hdl:decide ((k:Int)<(p.N.rules.length:Int))=true:=by simp;omega
   obtain⟨_,_,_,_,b260,_,_,b263,_⟩:=HC.out wr HH.out.1;obtain⟨b,o,rfl,hlt,hg⟩:=HG1.out (by intro e;rw [e]at hp;simp at hp);obtain⟨b2,o2,rfl,hlt2,hg2⟩:=HG4.out (by intro e;have:=HLE.out.1;rw [e]at this;simp at this;omega)
   have hke:k<p.N.ends.length:=by have:=HLE.out.1;omega
   have hcr:=(HH.out.1.cell (p:=⟨b,o+k,none⟩) hlt).trans (hg k hp);have hce:=(HH.out.1.cell (p:=⟨b2,o2+k,none⟩) hlt2).trans (hg2 k hke)
   have er:p.N.rules[k]=p.N.ruleAt (k:Int):=by unfold Nf.ruleAt;simp [hp]
   have ee:p.N.ends[k]=p.N.endAt (k:Int):=by unfold Nf.endAt;simp [hke]
   rw [er]at hcr;rw [ee]at hce
   have hle:(k:Int)<(p.N.ends.length:Int):=by omega
   have HHAS:=zd (xzhe w.heap.size 0 f k wr HH.out.2 (by have:=HLE.out.2;omega));have hlow:=HLO.out k;have hru:=HRU.out k;have hyes:=tag_yes p.N f k;have hno:=tag_no p.N f k;clear hg hg2 er ee;generalize p.N.ruleAt (k:Int)=rk at*;generalize p.N.endAt (k:Int)=ek at*;generalize tagTo p.N f k=lk at*
   cases hek:ek with
   |false=>
    have hln:=zd (hno (.inl hek));subst hek;clear hyes hno;go_wp2;exact⟨⟨k+1,rfl,hp,by rw [hln.out],HH⟩,by simp [intOf];omega⟩
   |true=>
    cases hfk:f k with
    |false=>
     have hln:=zd (hno (.inr (.inl hfk)));rw [hfk]at HHAS;subst hek;clear hyes hno hfk
     go_wp2_with fail
     go_at_call 107
     refine HHAS.out.mono ?_;rintro e u ⟨rfl,rfl⟩;go_wp2;exact⟨⟨k+1,rfl,hp,by rw [hln.out],HH⟩,by simp [intOf];omega⟩
    |true=>
     rw [hfk]at HHAS
     by_cases hz:lk= -1
     ·have hln:=zd (hyes hek hfk (.inl (by omega)))
      subst hek hz;clear hyes hno hfk
      go_wp2_with fail
      go_at_call 107
      refine HHAS.out.mono ?_;rintro e u ⟨rfl,rfl⟩;go_wp2;exact⟨⟨k+1,rfl,hp,by rw [hln.out],HH⟩,by simp [intOf];omega⟩
     ·have hz1:(lk== -1)=false:=by simpa using hz
      have hz2:decide (lk= -1)=false:=decide_eq_false hz
      by_cases hlt3:rk<lk
      ·have hln:=zd (hyes hek hfk (.inr hlt3))
       have hz3:decide (rk<lk)=true:=decide_eq_true hlt3;subst hek;clear hyes hno hfk hz
       go_wp2_with fail
       go_at_call 107
       refine HHAS.out.mono ?_;rintro e u ⟨rfl,rfl⟩;go_wp2;exact⟨⟨k+1,rfl,hp,by rw [hln.out],HH⟩,by simp [intOf];omega⟩
      ·have hln:=zd (hno (.inr (.inr ⟨by omega,by omega⟩)))
       have hz3:decide (rk<lk)=false:=decide_eq_false hlt3;subst hek;clear hyes hno hfk hz
       go_wp2_with fail
       go_at_call 107
       refine HHAS.out.mono ?_;rintro e u ⟨rfl,rfl⟩;go_wp2;exact⟨⟨k+1,rfl,hp,by rw [hln.out],HH⟩,by simp [intOf];omega⟩
  ·have hdl:decide ((k:Int)<(p.N.rules.length:Int))=false:=by simp;omega
   obtain rfl:k=p.N.rules.length:=by omega
   go_wp2;go_ret;exact⟨rfl,HH.out.1⟩
end
end Go.Proofs.YtdjpphjpnkfeiaaGreatDoor
