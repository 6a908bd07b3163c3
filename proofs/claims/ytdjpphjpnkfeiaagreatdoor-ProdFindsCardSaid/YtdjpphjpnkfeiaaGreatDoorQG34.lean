/-
 WHAT (*prod.walk).meet DOES: a step more, if its states weren't found before: a contract. Conditions: a walker lies there; the states are numbers of 16 bits; it has less than 2^30 steps.
-/
import Derived.Test.YtdjpphjpnkfeiaaGreatDoorQG33
import Derived.Test.YtdjpphjpnkfeiaaGreatDoorQG32
import Derived.Test.YtdjpphjpnkfeiaaGreatDoorQG07
namespace Go.Proofs.YtdjpphjpnkfeiaaGreatDoor
section
open Go.RowKit
attribute [local irreducible] FreeW textFrame
section
variable {p : WP} {S : SS → Bool} {m : Nat} {Z : List Zt} {vb vf : Value} {W : World}
theorem WkX.cells (h:WkX p S m Z vb vf W):W.cell? ⟨p.g,518,none⟩=some p.vy/\W.cell? ⟨p.g,519,none⟩=some vb/\W.cell? ⟨p.g,520,none⟩=some (.map (some p.M)):=
 ⟨h.blk.cell (i:=518) (by decide),h.blk.cell (i:=519) (by decide),h.blk.cell (i:=520) (by decide)⟩
end
theorem xzxg:(Tryz.prog.info? 103).map (·.size)=some 4:=by kernel_rfl
theorem xzxh:(Tryz.prog.info? 65).map (·.size)=some 2:=by kernel_rfl
theorem yzbp {u:World}{b:Nat}{z:Zt}(h:BlkIs u b 103 z.vals.toArray):(Instr.loadAt 103 (.pointer (some ⟨b,0,none⟩))).run Tryz.prog u=.ok (.agg z.vals.toArray) u:=
 run_loadAt_mid (P:=Tryz.prog) u b 0 103 z.vals _ (by have:=h.range;simpa using this) Tryz.underlying103 rfl (by rw [xzxg];rfl)
theorem load_ss {u:World}{b:Nat}{z:Zt}(h:BlkIs u b 103 z.vals.toArray):(Instr.loadAt 65 (.pointer (some ⟨b,0,none⟩))).run Tryz.prog u=.ok (.agg #[.int .i16 z.s.1,.int .i16 z.s.2]) u:=
 run_loadAt_mid (P:=Tryz.prog) u b 0 65 [.int .i16 z.s.1,.int .i16 z.s.2] _ (fun j v hv=>by
  have hj:j<2:=(List.getElem?_eq_some_iff.1 hv).1;rw [Nat.zero_add,h.cell j]
  match j,hj,hv with
  |0,_,hv=>exact hv
  |1,_,hv=>exact hv) Tryz.underlying65 rfl (by rw [xzxh];rfl)
def MeetIs (p:WP)(Z:List Zt)(z:Zt)(w:World):Ending->World->Prop:=fun e w'=>e=.returned (.tuple #[])/\∃ vf',Wk p (meetZ Z z) vf' w'/\KeepW p.n1 w w'
set_option maxRecDepth 20000 in
set_option maxHeartbeats 8000000 in
theorem xzxi (p:WP)(Z:List Zt)(vf:Value)(w:World)(h:Wk p Z vf w)(z:Zt)(hs1:ksIn z.s.1)(hs2:ksIn z.s.2)(hl:Z.length+1<=1073741824):
 Calls Tryz.prog 49 #[.pointer (some ⟨p.g,0,none⟩),.agg z.vals.toArray] w (MeetIs p Z z w):=by
 obtain⟨W1,hW1⟩:∃ W1,w.alloc (.cells z.vals.toArray 103)=W1:=⟨_,rfl⟩
 have hb1:Below w.heap.size w W1:=by rw [<-hW1];exact(Below.refl _ _).alloc (Nat.le_refl _) _
 have hx1:BlkIs W1 w.heap.size 103 z.vals.toArray:=by rw [<-hW1];exact BlkIs.new _ _ _
 have H1:=zd (And.intro (h.step hb1) (And.intro hx1 (And.intro (KeepW.step (n1:=p.n1) hb1 h.low.2.2.2) (BlkIs.lt hx1))));obtain⟨c518,c519,c520⟩:=(h.step hb1).cells
 have hlk:=fun n=>((h.step hb1).map.heap (W':=W1.drewN n) rfl).look hs1 hs2
 have k0:=hx1.cell 0;have k1:=hx1.cell 1;have k2:=hx1.cell 2;have k3:=hx1.cell 3;simp only [Zt.vals,zq]at k0 k1 k2 k3;have HS:=zd (And.intro hs1 hs2);have HLN:=zd hl;unfold Zt.vals at hW1;simp only [List.toArray]at hW1
 cases hse:seenZ Z z.s with
 |true=>
  have HZ:=zd (show meetZ Z z=Z by unfold meetZ;rw [hse];rfl);rw [show seenZ Z (z.s.1,z.s.2)=true from hse]at hlk;clear h hb1 hx1 hs1 hs2 hl hse;unfold Zt.vals
  go_enter Tryz.func49,Tryz.ntmps49
  go_wp2_with fail
  go_quiet (fail)
  go_wp2
  go_end0
  refine⟨rfl,vf,?_,?_⟩
  ·rw [HZ.out];exact H1.out.1.step (xzar (Below.refl _ _) _)
  ·exact H1.out.2.2.1.trans (KeepW.step (xzar (Below.refl _ _) _) H1.out.1.low.2.2.2)
 |false=>
  have HZ:=zd (show meetZ Z z=Z++[z]by unfold meetZ;rw [hse];rfl);rw [show seenZ Z (z.s.1,z.s.2)=false from hse]at hlk;have HOW:=zd (show ∀ b,vf.ownBlock=some b->b<w.heap.size from fun b e=>(World.ownsRow.lt h.fnd b e).2);clear h hb1 hx1 hs1 hs2 hl hse;unfold Zt.vals
  go_enter Tryz.func49,Tryz.ntmps49
  go_wp2_with fail
  go_quiet (fail)
  have HX:=zd (show WkX p (seenZ Z) (Z.length+1) Z vf vf (W1.drewN nq)/\BlkIs (W1.drewN nq) w.heap.size 103 z.vals.toArray/\KeepW p.n1 w (W1.drewN nq)/\w.heap.size<(W1.drewN nq).heap.size from
   ⟨H1.out.1.step (xzar (Below.refl _ _) _),H1.out.2.1.step (xzar (Below.refl _ _) _),H1.out.2.2.1.trans (KeepW.step (xzar (Below.refl _ _) _) H1.out.1.low.2.2.2),H1.out.2.2.2⟩)
  clear hlk k0 k1 k2 k3 c518 c519 c520 hW1
  go_wp2_with fail
  refine xzaf 6 28 (fun u=>Hid (WkX p (seenZ Z) (Z.length+1) Z vf vf u/\BlkIs u w.heap.size 103 z.vals.toArray/\KeepW p.n1 w u/\w.heap.size<u.heap.size)) (fun _ u u'=>Below u.heap.size u u')
   (fun i v u=>match i with
    |0=>v=.pointer (some ⟨p.g,0,none⟩)
    |1=>v=.pointer (some ⟨p.g,0,none⟩)
    |2=>v=.pointer (some ⟨p.g,520,none⟩)
    |3=>v=.map (some p.M)
    |4=>v=.pointer (some ⟨w.heap.size,0,none⟩)
    |5=>v=.agg #[.int .i16 z.s.1,.int .i16 z.s.2]
    |_=>True) (by kernel_rfl) (by kernel_rfl) rfl (zd ⟨HX.out.1.step (Below.refl _ _).drew,HX.out.2.1.drew,HX.out.2.2.1.trans (KeepW.step (Below.refl _ _).drew HX.out.1.low.2.2.2),HX.out.2.2.2⟩) ?_ ?_ ?_ ?_
  ·intro i u u' hix hC hr
   exact zd ⟨hC.out.1.step hr,hC.out.2.1.step hr,hC.out.2.2.1.trans (KeepW.step hr hC.out.1.low.2.2.2),Nat.lt_of_lt_of_le hC.out.2.2.2 hr.size⟩
  ·intro i j v u u' hix hj hne hv hr
   match i,hix,hne,hv with
   |0,_,_,hv=>exact hv
   |1,_,_,hv=>exact hv
   |2,_,_,hv=>exact hv
   |3,_,_,hv=>exact hv
   |4,_,_,hv=>exact hv
   |5,_,_,hv=>exact hv
   |i+6,hix,_,_=>omega
  ·intro i hix vs u hC hw oq ho
   match i,hix,hw,ho with
   |0,_,hw,ho=>
    simp only [zq,zh]at ho;subst ho;refine⟨rfl,?_⟩;clear hw;simp only [xzaa,tmpsTo];go_simp;exact xzab (Below.refl _ _) rfl
   |1,_,hw,ho=>
    have e0:vs 0=.pointer (some ⟨p.g,0,none⟩):=hw 0 (by omega) (by kernel_rfl);simp only [zq,zh]at ho;subst ho;refine⟨rfl,?_⟩;clear hw;simp only [xzaa,tmpsTo,putT,zr];rw [e0];clear e0;go_simp;exact xzab (Below.refl _ _) rfl
   |2,_,hw,ho=>
    have e1:vs 1=.pointer (some ⟨p.g,0,none⟩):=hw 1 (by omega) (by kernel_rfl);simp only [zq,zh]at ho;subst ho;refine⟨rfl,?_⟩;clear hw;simp only [xzaa,tmpsTo,putT,zr];rw [e1];clear e1;go_simp;exact xzab (Below.refl _ _) rfl
   |3,_,hw,ho=>
    have e2:vs 2=.pointer (some ⟨p.g,520,none⟩):=hw 2 (by omega) (by kernel_rfl);simp only [zq,zh]at ho;subst ho;refine⟨rfl,?_⟩;have k520:=hC.out.1.cells.2.2;clear hw;simp only [xzaa,tmpsTo,putT,zr];rw [e2];clear e2;go_simp;exact xzab (Below.refl _ _) rfl
   |4,_,hw,ho=>
    simp only [zq,zh]at ho;subst ho;refine⟨rfl,?_⟩;clear hw;simp only [xzaa,tmpsTo,putT,zr];go_simp;exact xzab (Below.refl _ _) rfl
   |5,_,hw,ho=>
    have e4:vs 4=.pointer (some ⟨w.heap.size,0,none⟩):=hw 4 (by omega) (by kernel_rfl);simp only [zq,zh]at ho;subst ho;refine⟨rfl,?_⟩;have kld:=load_ss hC.out.2.1;clear hw;simp only [xzaa,tmpsTo,putT,zr];rw [e4];clear e4;rw [xzah 65 (.tmp 16) _ rfl rfl kld];exact xzab (Below.refl _ _) rfl
   |i+6,hix,_,_=>omega
  intro vs1 u1 hC1 hV1;have q3:vs1 3=.map (some p.M):=hV1 3 (by omega);have q5:vs1 5=.agg #[.int .i16 z.s.1,.int .i16 z.s.2]:=hV1 5 (by omega);clear hV1;simp only [xzaa,tmpsTo,putT,zr,List.drop_succ_cons,List.drop_zero];rw [q3,q5];clear q3 q5;obtain⟨w2,hrun2,hm2,hg2⟩:=hC1.out.1.map.put HS.out.1 HS.out.2 (by unfold maxLen;have:=HLN.out;omega);have HW:=zd (And.intro (hC1.out.1.mapped hg2 hm2).1 (xzbw hC1.out.2.1 hg2 (fun e=>hC1.out.1.map.ne hC1.out.2.1 (Option.some.inj e))));have HKW:=zd (hC1.out.2.2.1.trans (hC1.out.1.mapped hg2 hm2).2);have HBX:=zd (show w.heap.size<w2.heap.size from Nat.lt_of_lt_of_le hC1.out.2.2.2 hg2.size);clear hm2 hg2 hC1;generalize vs1 0=q0;generalize vs1 1=q1;generalize vs1 2=q2;generalize vs1 4=q4
  go_wp2_with fail
  refine xzaf 10 28 (fun u=>Hid (WkX p (fun s=>decide (s=(z.s.1,z.s.2))||seenZ Z s) (Z.length+1+1) Z vf vf u/\BlkIs u w.heap.size 103 z.vals.toArray/\w2.heap.size<=u.heap.size/\Tn vf.ownBlock w2 u)) (fun i u u'=>(i=7->u.grownBy u' vf.ownBlock/\WkX p (fun s=>decide (s=(z.s.1,z.s.2))||seenZ Z s) (Z.length+1+1) Z vf vf u')/\(i≠7->Below u.heap.size u u'))
   (fun i v u=>match i with
    |0=>v=.pointer (some ⟨p.g,0,none⟩)
    |1=>v=.pointer (some ⟨p.g,0,none⟩)
    |2=>v=.pointer (some ⟨p.g,0,none⟩)
    |3=>v=.pointer (some ⟨p.g,519,none⟩)
    |4=>v=vf
    |5=>v=.agg z.vals.toArray
    |6=>∃ b,v=.slice (some ⟨b,0,none⟩) 1 1/\BlkIs u b 103 z.vals.toArray/\w2.heap.size<=b
    |7=>u.ownsRow p.n1 103 4 v (Z.length+1) (stepsZ Z++z.vals)/\(v.ownBlock=vf.ownBlock\/ ∃ b,v.ownBlock=some b/\w2.heap.size<=b)
    |8=>v=.pointer (some ⟨p.g,0,none⟩)
    |9=>v=.pointer (some ⟨p.g,519,none⟩)
    |_=>True) (by kernel_rfl) (by kernel_rfl) rfl (zd ⟨HW.out.1.step (Below.refl _ _).drew,HW.out.2.drew,Nat.le_refl _,Tn.below (Below.refl _ _).drew⟩) ?_ ?_ ?_ ?_
  ·intro i u u' hix hC hr
   by_cases hi7:i=7
   ·obtain⟨g1,g2⟩:=hr.1 hi7
    exact zd ⟨g2,xzbw hC.out.2.1 g1 (fun e=>by have:=HOW.out _ e.symm;have:=HBX.out;omega),Nat.le_trans hC.out.2.2.1 g1.size,hC.out.2.2.2.trans (Tn.grown g1)⟩
   ·have hb:=hr.2 hi7
    exact zd ⟨hC.out.1.step hb,hC.out.2.1.step hb,Nat.le_trans hC.out.2.2.1 hb.size,hC.out.2.2.2.trans (Tn.below hb)⟩
  ·intro i j v u u' hix hj hne hv hr
   match i,hix,hne,hv with
   |0,_,_,hv=>exact hv
   |1,_,_,hv=>exact hv
   |2,_,_,hv=>exact hv
   |3,_,_,hv=>exact hv
   |4,_,_,hv=>exact hv
   |5,_,_,hv=>exact hv
   |6,_,hne,hv=>
    obtain⟨b,e1,e2,e3⟩:=hv;refine⟨b,e1,?_,e3⟩
    by_cases hj7:j=7
    ·exact xzbw e2 (hr.1 hj7).1 (fun e=>by have:=HOW.out b e.symm;have:=HBX.out;omega)
    ·exact e2.step (hr.2 hj7)
   |7,_,hne,hv=>
    exact⟨xzau hv.1 fun k hk=>(hr.2 (Ne.symm hne)).block k (World.ownsRow.lt hv.1 k hk).2,hv.2⟩
   |8,_,_,hv=>exact hv
   |9,_,_,hv=>exact hv
   |i+10,hix,_,_=>omega
  ·intro i hix vs u hC hw oq ho
   match i,hix,hw,ho with
   |0,_,hw,ho=>
    simp only [zq,zh]at ho;subst ho;refine⟨rfl,?_⟩;clear hw;simp only [xzaa,tmpsTo];go_simp;exact xzab (Below.refl _ _) rfl
   |1,_,hw,ho=>
    simp only [zq,zh]at ho;subst ho;refine⟨rfl,?_⟩;clear hw;simp only [xzaa,tmpsTo,putT,zr];go_simp;exact xzab (Below.refl _ _) rfl
   |2,_,hw,ho=>
    have e1:vs 1=.pointer (some ⟨p.g,0,none⟩):=hw 1 (by omega) (by kernel_rfl);simp only [zq,zh]at ho;subst ho;refine⟨rfl,?_⟩;clear hw;simp only [xzaa,tmpsTo,putT,zr];rw [e1];clear e1;go_simp;exact xzab (Below.refl _ _) rfl
   |3,_,hw,ho=>
    have e2:vs 2=.pointer (some ⟨p.g,0,none⟩):=hw 2 (by omega) (by kernel_rfl);simp only [zq,zh]at ho;subst ho;refine⟨rfl,?_⟩;clear hw;simp only [xzaa,tmpsTo,putT,zr];rw [e2];clear e2;go_simp;exact xzab (Below.refl _ _) rfl
   |4,_,hw,ho=>
    have e3:vs 3=.pointer (some ⟨p.g,519,none⟩):=hw 3 (by omega) (by kernel_rfl);simp only [zq,zh]at ho;subst ho;refine⟨rfl,?_⟩;have k519:=hC.out.1.cells.2.1;clear hw;simp only [xzaa,tmpsTo,putT,zr];rw [e3];clear e3;go_simp;exact xzab (Below.refl _ _) rfl
   |5,_,hw,ho=>
    simp only [zq,zh]at ho;subst ho;refine⟨rfl,?_⟩;have kld:=yzbp hC.out.2.1;clear hw;simp only [xzaa,tmpsTo,putT,zr];rw [xzah 103 (.tmp 3) _ rfl rfl kld];exact xzab ⟨fun h=>absurd h (by decide),fun _=>Below.refl _ _⟩ rfl
   |6,_,hw,ho=>
    have e5:vs 5=.agg z.vals.toArray:=hw 5 (by omega) (by kernel_rfl);simp only [zq,zh]at ho;subst ho;refine⟨rfl,?_⟩;clear hw;simp only [xzaa,tmpsTo,putT,zr];rw [e5];clear e5;unfold Zt.vals;go_simp;exact xzab ((Below.refl _ _).alloc (Nat.le_refl _) _) ⟨_,rfl,BlkIs.new _ _ _,hC.out.2.2.1⟩
   |7,_,hw,ho=>
    have e4:vs 4=vf:=hw 4 (by omega) (by kernel_rfl);obtain⟨b6,e6,hb6,hlo6⟩:=hw 6 (by omega) (by kernel_rfl);simp only [zq,zh]at ho;subst ho;refine⟨rfl,?_⟩;obtain⟨v',W',hrun,ho1,hg1,ho2,hv'⟩:=xzoi hC.out.1.fnd (z:=z) (b:=b6) (c:=1) (fun k x hx=>by rw [hb6.cell k];rw [List.getElem?_toArray];exact hx) HLN.out (by have:=hC.out.1.low;omega);clear hw;simp only [xzaa,tmpsTo,putT,zr];rw [e4];clear e4;rw [e6];clear e6;rw [xzca (.tmp 22) (.tmp 24) 97 97 rfl rfl rfl hrun];refine xzab ⟨fun _=>⟨hg1,hC.out.1.appended hg1 ho2⟩,fun h=>absurd rfl h⟩ ⟨ho1,?_⟩
    rcases hv' with e|e
    ·exact .inl e
    ·exact .inr ⟨_,e,hC.out.2.2.1⟩
   |8,_,hw,ho=>
    have e0:vs 0=.pointer (some ⟨p.g,0,none⟩):=hw 0 (by omega) (by kernel_rfl);simp only [zq,zh]at ho;subst ho;refine⟨rfl,?_⟩;clear hw;simp only [xzaa,tmpsTo,putT,zr];rw [e0];clear e0;go_simp;exact xzab (Below.refl _ _) rfl
   |9,_,hw,ho=>
    have e8:vs 8=.pointer (some ⟨p.g,0,none⟩):=hw 8 (by omega) (by kernel_rfl);simp only [zq,zh]at ho;subst ho;refine⟨rfl,?_⟩;clear hw;simp only [xzaa,tmpsTo,putT,zr];rw [e8];clear e8;go_simp;exact xzab (Below.refl _ _) rfl
   |i+10,hix,_,_=>omega
  intro vs3 u3 hC3 hV3;have q7:u3.ownsRow p.n1 103 4 (vs3 7) (Z.length+1) (stepsZ Z++z.vals)/\((vs3 7).ownBlock=vf.ownBlock\/ ∃ b,(vs3 7).ownBlock=some b/\w2.heap.size<=b):=hV3 7 (by omega);have q9:vs3 9=.pointer (some ⟨p.g,519,none⟩):=hV3 9 (by omega);clear hV3;simp only [xzaa,tmpsTo,putT,zr,List.drop_succ_cons,List.drop_zero];rw [q9];clear q9;generalize vs3 7=v7 at*
  obtain⟨A7,c7,rfl⟩:∃ A c,v7=.slice A (Z.length+1) c:=by
   rcases q7.1.2 with⟨rfl,e⟩|⟨g,cap,cur,rfl,_⟩
   ·omega
   ·exact⟨_,_,rfl⟩
  have hce:=hC3.out.1.cells.2.1;have hfz:=BlkIs.frozen hC3.out.1.blk 519;obtain⟨hst,hkp⟩:=(hC3.out.1.newRow q7.1).stored _ rfl;have HFIN:=zd (And.intro hst (HKW.out.trans ((HW.out.1.keepT hC3.out.2.2.2).trans hkp)));clear hst hkp q7 hC3;generalize vs3 0=q10;generalize vs3 1=q11;generalize vs3 2=q12;generalize vs3 3=q13;generalize vs3 4=q14;generalize vs3 5=q15;generalize vs3 6=q16;generalize vs3 8=q18;go_wp2
  go_end0
  refine⟨rfl,.slice A7 (Z.length+1) c7,?_,HFIN.out.2⟩;rw [HZ.out];have:=HFIN.out.1;unfold Wk;rw [xzxc,List.length_append];exact this
end
section
open Go.RowKit
section actv
variable {P : Program} {ops : Array Oper} {C : World → Prop}
def actUpon3 (P:Program)(w:World)(R:World->World->Prop)(V:Value->World->Prop):Result Next->Prop
 | .ok (.value v) w'=>R w w'/\V v w'
 | .ok .skip w'=>R w w'/\V undef w'
 | .ok (.enter f args) w'=>w'=w/\Calls P f args w (fun e w''=>∃ v,e=.returned v/\R w w''/\V v w'')
 |_=>False
theorem xzdl {w w':World}{R:World->World->Prop}{V:Value->World->Prop}{x:Value}(hr:R w w')(h:V x w'):actUpon3 P w R V (.ok (.value x) w'):=⟨hr,h⟩
theorem yzbq {w w':World}{R:World->World->Prop}{V:Value->World->Prop}(hr:R w w')(h:V undef w'):actUpon3 P w R V (.ok .skip w'):=⟨hr,h⟩
theorem yzbr {w:World}{R:World->World->Prop}{V:Value->World->Prop}{f:FuncId}{args:Array Value}(h:Calls P f args w (fun e w''=>∃ v,e=.returned v/\R w w''/\V v w'')):actUpon3 P w R V (.ok (.enter f args) w):=⟨rfl,h⟩
def StandsV (ops:Array Oper)(C:World->Prop)(h:Nat)(V:Nat->(Nat->Bool)->(Nat->Value)->World->Prop)(a0:Act)(listed:Array Bool)(a:Act)(u:World):Prop:=
 HeadInv .any ops h listed/\∃ vs:Nat->Value,Came ops (fun i=>listed.getD i false) vs a0 a/\C u/\(∀ i,i<h->listed.getD i false=true->V i (fun j=>listed.getD j false) vs u)/\(∀ i j,i<h->j<i->listed.getD i false=true->Region.waitsFor .any ops i j=true->listed.getD j false=true)
def StepV (P:Program)(ops:Array Oper)(C:World->Prop)(R:Nat->World->World->Prop)(V:Nat->(Nat->Bool)->(Nat->Value)->World->Prop)(a0:Act)(i:Nat):Prop:=
 ∀ (L:Nat->Bool) (vs:Nat->Value) (u:World),L i=false->C u->(∀ j,j<i->Region.waitsFor .any ops i j=true->V j L vs u)->∀ o,ops[i]? =some o->o.guard=none/\actUpon3 P u (R i) (fun x u'=>V i (fun j=>if j=i then true else L j) (fun j=>if j=i then x else vs j) u') ((execOp (textFrame ops vs a0 i).eval o).run P u)
variable {h N : Nat} {R : Nat → World → World → Prop} {V : Nat → (Nat → Bool) → (Nat → Value) → World → Prop} {a0 : Act}
theorem xzrz (hsel:Region.noSelect ops=true)(hh:h<=ops.size)(hD:distinctB ops h N=true)(hK:looksB ops h h=true)(hN:a0.tmps.size=N)
 (hCs:∀ i u u',i<h->C u->R i u u'->C u')(hVs:∀ i j L vs u u',i<h->j<h->i≠j->L j=false->V i L vs u->R j u u'->V i (fun k=>if k=j then true else L k) vs u')(hVl:∀ i L vs vs' u,i<h->(∀ j,j<=i->(j=i\/Region.waitsFor .any ops i j=true)->vs j=vs' j)->V i L vs u->V i L vs' u){Q:Exit->Act->World->Prop}{listed:Array Bool}{a:Act}{u:World}(hst:StandsV ops C h V a0 listed a u)
 {i:Nat} (hi:i<h) (hr:i∈Region.ready .any ops listed) (hv:StepV P ops C R V a0 i):
 wpOp P ops Q i (fun a' u'=>StandsV ops C h V a0 (listed.setIfInBounds i true) a' u') a u:=by
 obtain⟨inv,vs,hc,hC,hV,hW⟩:=hst;have hcc:=xzci hD hN hh vs i (by omega);obtain⟨hun,o',ho',hall⟩:=mem_ready.1 hr;have hunf:=getD_both hun
 have hlt:=fun j hj=>xzdm inv j hj
 have hsz:a.tmps.size=(textFrame ops vs a0 i).tmps.size:=hc.2.1.trans hcc.2.1.symm
 have hwait:∀ j,j<i->Region.waitsFor .any ops i j=true->listed.getD j false=true:=fun j _ h3=>by
  obtain⟨oi,hoi,e,he,hbd,hon⟩:=Region.waitsFor_spec h3;obtain rfl:oi=o':=Option.some.inj (hoi.symm.trans ho');have hl:=hall e he hbd;rw [hon]at hl;exact hl
 have hlook:∀ t∈o'.looksAt ops,a.tmps.getD t undef=(textFrame ops vs a0 i).tmps.getD t undef:=fun t ht=>by
  by_cases hwr:∃ j oj,j<h/\ops[j]? =some oj/\oj.dst=some t/\j≠i
  ·obtain⟨j,oj,hj,hoj,hd,hne⟩:=hwr
   obtain⟨h1,h2,h3⟩:=xzcw hK hi ho' ht hj hoj hd hne;have hl:=hwait j h1 h3;rw [hc.2.2.1 j oj t hoj hl hd,hcc.2.2.1 j oj t hoj (by simpa using h1) hd]
  ·have hn1:∀ j oj,ops[j]? =some oj->listed.getD j false=true->oj.dst≠some t:=fun j oj hoj hl hd=>by
    by_cases e:j=i
    ·subst e;rw [hunf]at hl;cases hl
    ·exact hwr ⟨j,oj,hlt j hl,hoj,hd,e⟩
   have hn2:∀ j oj,ops[j]? =some oj->decide (j<i)=true->oj.dst≠some t:=fun j oj hoj hl hd=>
    hwr ⟨j,oj,by have:=of_decide_eq_true hl;omega,hoj,hd,by have:=of_decide_eq_true hl;omega⟩
   rw [hc.2.2.2 t hn1,hcc.2.2.2 t hn2]
 obtain⟨hex,hwa⟩:=xzeq (ops:=ops) (Region.noSelect_spec hsel i o' · · ho') hsz hlook
 have hLe:(fun j=>(listed.setIfInBounds i true).getD j false)=fun j=>if j=i then true else listed.getD j false:=by
  funext j
  by_cases e:j=i
  ·subst e
   have:j<listed.size:=by rw [inv.size];omega
   simp [this]
  ·rw [getD_set_ne false (Ne.symm e),if_neg e]
 have hset:∀ (x:Value) (u':World),R i u u'->V i (fun j=>if j=i then true else listed.getD j false) (fun j=>if j=i then x else vs j) u'->StandsV ops C h V a0 (listed.setIfInBounds i true) (a.put o'.dst x) u':=fun x u' hbu hx=>by
  refine⟨inv.set hr (by omega),fun j=>if j=i then x else vs j,?_,hCs _ _ _ hi hC hbu,fun j h1 h3=>?_,fun j k h1 h2 h3 h4=>?_⟩
  ·refine hc.put hD hN (fun j hj=>hlt j hj) hi ho' hunf x (fun j=>?_) (fun j hj=>?_) (by simp)
   ·by_cases e:j=i
    ·subst e
     have:j<listed.size:=by rw [inv.size];omega
     simp [this]
    ·rw [getD_set_ne false (Ne.symm e)];simp [e]
   ·have hne:j≠i:=fun e=>by subst e;rw [hunf]at hj;cases hj
    simp [hne]
  ·rw [hLe]
   by_cases e:j=i
   ·subst e;exact hx
   ·rw [getD_set_ne false (Ne.symm e)]at h3
    refine hVl j _ _ _ _ h1 (fun k hk hor=>?_) (hVs j i _ _ _ _ h1 hi e hunf (hV j h1 h3) hbu)
    have hki:k≠i:=fun e2=>by
     subst e2
     rcases hor with e3|hw3
     ·exact e e3.symm
     ·have:=hW j k h1 (by omega) h3 hw3
      rw [hunf]at this;cases this
    simp only [if_neg hki]
  ·by_cases e:j=i
   ·subst e
    have hl:=hwait k h2 h4
    have hne:k≠j:=by omega
    rw [getD_set_ne false (Ne.symm hne)];exact hl
   ·rw [getD_set_ne false (Ne.symm e)]at h3
    have hl:=hW j k h1 h2 h3 h4
    by_cases e2:k=i
    ·subst e2;rw [hunf]at hl;cases hl
    ·rw [getD_set_ne false (Ne.symm e2)];exact hl
 obtain⟨hg,hf⟩:=hv (fun j=>listed.getD j false) vs u hunf hC (fun j hj hw=>hV j (by omega) (hwait j hj hw)) o' ho';unfold wpOp;simp only [ho']
 have hw:Region.wanted o' (yielded ops a.tmps)=true:=by unfold Region.wanted;rw [hg]
 rw [if_pos hw];refine .inl ?_;rw [<-hex]at hf;unfold Oper.wp;generalize(execOp a.eval o').run P u=r at hf
 cases r with
 |ok nx w'=>
  cases nx<;>simp only [actUpon3]at hf<;>simp only [Oper.upon]
  case value x=>exact hset x w' hf.1 hf.2
  case skip=>exact hset undef w' hf.1 hf.2
  case enter f args=>
   obtain⟨rfl,hcall⟩:=hf
   exact hcall.mono fun e w'' ⟨v,he,hbw,hvw⟩=>by subst he;exact hset v w'' hbw hvw
 |halt x w'=>simp only [actUpon3]at hf
theorem yzbs {Q:Exit->Act->World->Prop}(hB:freeB ops h h N=true)(hN:a0.tmps.size=N)(hCs:∀ i u u',i<h->C u->R i u u'->C u')(hVs:∀ i j L vs u u',i<h->j<h->i≠j->L j=false->V i L vs u->R j u u'->V i (fun k=>if k=j then true else L k) vs u')(hVl:∀ i L vs vs' u,i<h->(∀ j,j<=i->(j=i\/Region.waitsFor .any ops i j=true)->vs j=vs' j)->V i L vs u->V i L vs' u)
 (hS:∀ i,i<h->StepV P ops C R V a0 i)
 (hend:∀ a u,StandsV ops C h V a0 (headArr ops.size h) a u->wpList P ops Q (ops.toList.drop h) a u):
 ∀ (d:Nat) (listed:Array Bool) (a:Act) (u:World),toCome listed h=d->StandsV ops C h V a0 listed a u->wpAny P .any ops Q (d+(ops.size - h)) listed a u:=by
 simp only [freeB,Bool.and_eq_true,Bool.or_eq_true,decide_eq_true_eq]at hB;obtain⟨⟨⟨⟨⟨⟨⟨hsel,hnh⟩,hh⟩,hD⟩,hK⟩,hA⟩,hT⟩,hSq⟩:=hB;intro d
 induction d with
 |zero=>
  intro listed a u hd hst;have hl:=xzcz hst.1 (xzcx hd);subst hl;have:=wpAny_of_seq (md:=.any) (Q':=Q) (ops.toList.drop h) h (headArr ops.size h) a u (fun j=>by simp) (by simpa using hSq) (hend a u hst)
  simpa using this
 |succ d ih=>
  intro listed a u hd hst
  have hex:∃ i,i<h/\listed.getD i false=false:=by
   have hpos:0<((List.range h).filter fun i=> !listed.getD i false).length:=by unfold toCome at hd;omega
   obtain⟨i,hi⟩:=List.exists_mem_of_length_pos hpos;rw [List.mem_filter]at hi;exact⟨i,List.mem_range.1 hi.1,by simpa using hi.2⟩
  obtain⟨i0,hi0,hu0⟩:=hex;have hs:=hst.1.size;obtain⟨j0,hj0⟩:=xzcy hh hA hs i0 i0 (Nat.le_refl _) hi0 hu0;rw [show d+1+(ops.size - h)=(d+(ops.size - h))+1 by omega];refine⟨fun he=>(by rw [he]at hj0;cases hj0),fun i hi=>?_⟩
  have hil:i<ops.size:=by
   obtain⟨_,o,ho,_⟩:=mem_ready.1 hi;exact(Array.getElem?_eq_some_iff.1 ho).1
  have hih:i<h:=by
   rcases Nat.lt_or_ge i h with hlt|hge
   ·exact hlt
   ·rcases hT with hT|hT
    ·omega
    ·exact absurd hi (tail_waits hT.1 hT.2 (by omega) hst.1 (h - i0) i0 rfl hi0 (getD_in (by omega) hu0) i hge)
  have hun:=getD_both (mem_ready.1 hi).1;have hset:=xzdr hih (by omega) hun;exact wpOp_mono (fun a' u' hst'=>ih _ a' u' (by omega) hst') (xzrz hsel hh hD hK hN hCs hVs hVl hst hih hi (hS i hih))
theorem xziu {id:Nat}{l:List Oper}{Q:Exit->Act->World->Prop}{a:Act}{w:World}(h N:Nat)(C:World->Prop)(R:Nat->World->World->Prop)(V:Nat->(Nat->Bool)->(Nat->Value)->World->Prop)
 (hm:P.follows .mixedOrders=true)(hB:freeB l.toArray h h N=true)(hN:a.tmps.size=N)(hC0:C w.drew)(hCs:∀ i u u',i<h->C u->R i u u'->C u')(hVs:∀ i j L vs u u',i<h->j<h->i≠j->L j=false->V i L vs u->R j u u'->V i (fun k=>if k=j then true else L k) vs u')(hVl:∀ i L vs vs' u,i<h->(∀ j,j<=i->(j=i\/Region.waitsFor .any l.toArray i j=true)->vs j=vs' j)->V i L vs u->V i L vs' u)
 (hS:∀ i,i<h->StepV P l.toArray C R V a i)
 (hE:∀ (vs:Nat->Value) (u:World),C u->(∀ i,i<h->V i (fun j=>decide (j<h)) vs u)->wpList P l.toArray Q (l.drop h) (textFrame l.toArray vs a h) u):(Code.region id l.toArray true).wp P Q a w:=by
 have hB':=hB;simp only [freeB,Bool.and_eq_true,Bool.or_eq_true,decide_eq_true_eq]at hB';obtain⟨⟨⟨⟨⟨⟨⟨hsel,hnh⟩,hh⟩,hD⟩,hK⟩,hA⟩,hT⟩,hSq⟩:=hB';refine wp_region_any hm ?_
 have inv0:HeadInv .any l.toArray h (Array.replicate l.toArray.size false):=
  ⟨by simp,fun j oj _ hl=>(by rw [getD_replicate_false]at hl;cases hl),fun t _ ht=>getD_in (by simpa using ht) (getD_replicate_false _ _)⟩
 have hst0:StandsV l.toArray C h V a (Array.replicate l.toArray.size false) a w.drew:=by
  refine⟨inv0,fun _=>undef,⟨rfl,rfl,fun i o t _ hi=>?_,fun _ _=>rfl⟩,hC0,fun i _ hl=>?_,fun i j _ _ hl _=>?_⟩
  ·have hi':(Array.replicate l.toArray.size false).getD i false=true:=hi
   rw [getD_replicate_false]at hi';cases hi'
  ·rw [getD_replicate_false]at hl;cases hl
  ·rw [getD_replicate_false]at hl;cases hl
 have hcome:toCome (Array.replicate l.toArray.size false) h=h:=by
  unfold toCome;rw [List.filter_eq_self.2 (fun i _=>by rw [getD_replicate_false];rfl)]
  simp
 have:=yzbs (P:=P) (Q:=Q) hB hN hCs hVs hVl hS (fun a' u hst=>?_) h _ a w.drew hcome hst0
 ·rw [show h+(l.toArray.size - h)=l.toArray.size by omega]at this
  exact this
 ·obtain⟨inv,vs,hc,hC,hV,hW⟩:=hst
  have hg:∀ i,i<h->(headArr l.toArray.size h).getD i false=true:=fun i hi=>by rw [xzbp,if_pos (by omega)];simpa using hi
  have hcall:Came l.toArray (fun j=>decide (j<h)) vs a a':=by
   refine⟨hc.1,hc.2.1,fun i o t ho hi ht=>hc.2.2.1 i o t ho (hg i (of_decide_eq_true hi)) ht,fun t ht=>hc.2.2.2 t fun i o ho hi=>ht i o ho ?_⟩;have:=xzdm inv i hi
   simpa using this
  have he:=hcall.unique (xzci hD hN hh vs h (Nat.le_refl _)) (fun _ _=>rfl);subst he
  have hLh:(fun j=>(headArr l.toArray.size h).getD j false)=fun j=>decide (j<h):=by
   funext j
   by_cases e:j<h
   ·rw [hg j e,decide_eq_true e]
   ·rw [decide_eq_false e,Bool.eq_false_iff]
    intro h2;exact e (xzdm inv j h2)
  simpa using hE vs u hC (fun i hi=>by have:=hV i hi (hg i hi);rwa [hLh]at this)
theorem xzio {w:World}{R R':World->World->Prop}{V V':Value->World->Prop}{r:Result Next}(h:actUpon3 P w R' V' r)(hk:∀ x u',R' w u'->V' x u'->R w u'/\V x u'):actUpon3 P w R V r:=by
 cases r with
 |ok nx w'=>
  cases nx<;>simp only [actUpon3]at h ⊢
  case value x=>exact hk x w' h.1 h.2
  case skip=>exact hk undef w' h.1 h.2
  case enter f args=>exact⟨h.1,h.2.mono fun e w'' ⟨v,he,h1,h2⟩=>⟨v,he,hk v w'' h1 h2⟩⟩
 |halt x w'=>simp only [actUpon3]at h
end actv
end
end Go.Proofs.YtdjpphjpnkfeiaaGreatDoor
