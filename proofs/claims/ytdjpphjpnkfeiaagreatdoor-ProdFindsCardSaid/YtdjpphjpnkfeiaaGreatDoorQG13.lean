/-
 WHAT findAll OF THE MAKER OF SUBSETS DOES: a contract. Condition: the automaton with choices may be; at most 256 classes.
-/
import Derived.WalkMore
import Derived.Test.YtdjpphjpnkfeiaaGreatDoorQG09
import Derived.Test.YtdjpphjpnkfeiaaGreatDoorQG12
namespace Go.Proofs.YtdjpphjpnkfeiaaGreatDoor
open Go.RowKit
attribute [local irreducible] FreeW textFrame
theorem xzzu {P:Program}{o:Oper}{a:Act}{w:World}{r:Bool}(t:TypeId)(x y:Operand)(p q:Array Value)(ho:o.op=.binOp .eql t x y t)(hx:a.eval x=.agg p)(hy:a.eval y=.agg q)(hg:P.eqGuardType P.depth t=false)
 (h:(binOp .eql t (.agg p) (.agg q)).run P w=.ok (.bool r) w):(execOp a.eval o).run P w=.ok (.value (.bool r)) w:=by
 have hq:=run_eqGuard_agg (P:=P) w .eql t x y p q hg;unfold execOp;simp only [ho,hx,hy,Sem.run_bind,Sem.run_pure,hq,h,Result.andThen_ok]
theorem xzje {P:Program}{op:Oper}{ops:Array Oper}{rest:List Oper}{a:Act}{w:World}{Q:Exit->Act->World->Prop}(hgd:op.guard=none){r:Bool}(t:TypeId)(x y:Operand)(p q:Array Value)(ho:op.op=.binOp .eql t x y t)(hx:a.eval x=.agg p)(hy:a.eval y=.agg q)(hg:P.eqGuardType P.depth t=false)
 (h:(binOp .eql t (.agg p) (.agg q)).run P w=.ok (.bool r) w)(hK:wpList P ops Q rest (a.put op.dst (.bool r)) w):wpList P ops Q (op::rest) a w:=
 wpList_plain hgd fun _ hK'=>by
  unfold Oper.wp;rw [xzzu t x y p q ho hx hy hg h];exact hK' _ _ hK
theorem xzho:Tryz.prog.built 127 []=some (rowA fun _=>false):=by kernel_rfl
theorem rowA_nil:rowA (setOf [])=rowA fun _=>false:=xzlj fun p _=>by unfold setOf hasI;rfl
def tagsL (N:Nf)(L:List (List Int)):List Int:=(List.range L.length).map fun i=>if i=0 then N.empty else tagTo N (setOf (L.getD i [])) N.rules.length
theorem xzzv (N:Nf)(L:List (List Int)):(tagsL N L).length=L.length:=by simp [tagsL]
theorem xzzw (N:Nf)(L:List (List Int))(x:List Int)(h:1<=L.length):tagsL N (L++[x])=tagsL N L++[tagTo N (setOf x) N.rules.length]:=by
 unfold tagsL;rw [List.length_append,List.length_singleton,List.range_succ,List.map_append]
 congr 1
 ·apply List.map_congr_left
  intro i hi;have hi':=List.mem_range.1 hi;rw [List.getD_eq_getElem?_getD,List.getElem?_append_left hi',List.getD_eq_getElem?_getD]
 ·have: ¬ L.length=0:=by omega
  simp only [List.map_cons,List.map_nil,if_neg this,List.getD_eq_getElem?_getD,List.getElem?_append_right (Nat.le_refl _)]
  simp
theorem NumIs.one {W:World}{M:Nat}(h:NumIs W M []):NumIs W M [[]]:=by
 obtain⟨D,h1,h2,h3⟩:=h;refine⟨D,h1.mono (Nat.le_succ _),fun s=>?_,fun i hi1 hi=>?_⟩
 ·rw [h2];simp
 ·simp at hi;omega
def noRow (C:Nat):List Int:=List.replicate C (-1)
def nowRows (C a k:Nat)(R:List (List Int))(r:List Int×List (List Int)):List (List Int):=R++((r.1++List.replicate (C - k) (-1))::List.replicate (r.2.length - a - 1) (noRow C))
theorem xzfj (C a k:Nat)(R:List (List Int))(r:List Int×List (List Int))(hR:R.length=a)(ha:a<r.2.length):(nowRows C a k R r).length=r.2.length:=by
 unfold nowRows;simp;omega
theorem xzlw (N:Nf)(lb:Nat->Nat)(C a:Nat)(R L:List (List Int))(ha:a<L.length):R++List.replicate (L.length - a) (noRow C)=nowRows C a 0 R (rowTo N lb a L 0):=by
 unfold nowRows rowTo;rw [show L.length - a=(L.length - a - 1)+1 by omega,List.replicate_succ]
 simp [noRow]
theorem xznp (C a:Nat)(R:List (List Int))(r:List Int×List (List Int)):nowRows C a C R r=(R++[r.1])++List.replicate (r.2.length - (a+1)) (noRow C):=by
 unfold nowRows;rw [Nat.sub_self,List.replicate_zero,List.append_nil,List.append_assoc,Nat.sub_sub];rfl
theorem xznq (C a k:Nat)(R:List (List Int))(r:List Int×List (List Int))(hk:k<C):nowRows C a k R r=nowRows C a (k+1) R (r.1++[-1],r.2):=by
 unfold nowRows;rw [show C - k=(C - (k+1))+1 by omega,List.replicate_succ]
 simp
theorem xzjf (C a k:Nat)(R:List (List Int))(r:List Int×List (List Int))(v:Int)(hR:R.length=a):(nowRows C a k R r).set a (r.1++v::List.replicate (C - (k+1)) (-1))=nowRows C a (k+1) R (r.1++[v],r.2):=by
 unfold nowRows;subst hR;rw [List.set_append_right _ _ (Nat.le_refl _),Nat.sub_self,List.set_cons_zero]
 simp
theorem xznr (C a k:Nat)(R:List (List Int))(r:List Int×List (List Int))(x:List Int)(ha:a<r.2.length):nowRows C a k R r++[noRow C]=nowRows C a k R (r.1,r.2++[x]):=by
 unfold nowRows;rw [List.append_assoc,List.cons_append,<-List.replicate_succ']
 congr 3
 simp;omega
theorem xzlx (C a k:Nat)(R:List (List Int))(r:List Int×List (List Int))(hR:R.length=a)(h:a<(nowRows C a k R r).length):(nowRows C a k R r)[a]=r.1++List.replicate (C - k) (-1):=by
 have e:(nowRows C a k R r)[a]? =some (r.1++List.replicate (C - k) (-1)):=by
  subst hR;unfold nowRows;rw [List.getElem?_append_right (Nat.le_refl _),Nat.sub_self];rfl
 exact(List.getElem?_eq_some_iff.1 e).2
theorem xzus (l:List Int)(k C:Nat)(v:Int)(hk:k<C)(hl:l.length=k){W:World}{g:Nat}{t:TypeId}(h:BlkF W g t C (putV (intF (l++List.replicate (C - k) (-1))) k (.int .i64 v))):BlkF W g t C (intF (l++v::List.replicate (C - (k+1)) (-1))):=by
 have e:cellsN C (putV (intF (l++List.replicate (C - k) (-1))) k (.int .i64 v))=cellsN C (intF (l++v::List.replicate (C - (k+1)) (-1))):=xzap fun i hi=>by
  unfold putV intF;subst hl
  by_cases h1:i=l.length
  ·subst h1
   rw [if_pos rfl,List.getD_eq_getElem?_getD,List.getElem?_append_right (Nat.le_refl _),Nat.sub_self];rfl
  ·rw [if_neg h1]
   by_cases h2:i<l.length
   ·rw [List.getD_eq_getElem?_getD,List.getD_eq_getElem?_getD,List.getElem?_append_left h2,List.getElem?_append_left h2]
   ·rw [List.getD_eq_getElem?_getD,List.getD_eq_getElem?_getD,List.getElem?_append_right (by omega),List.getElem?_append_right (by omega),List.getElem?_replicate,if_pos (by omega)]
    rw [show i - l.length=(i - l.length - 1)+1 by omega,List.getElem?_cons_succ,List.getElem?_replicate,if_pos (by omega)]
 unfold BlkF at h ⊢;rw [<-e];exact h
set_option maxRecDepth 20000 in
set_option maxHeartbeats 32000000 in
theorem xzut (p:SP)(ρ:Nat->Nat)(D:SD)(V:MkV)(bs:Nat->Nat)(w:World)(h:SM p ρ D V bs w)(hmi:MayIs p.N)(lb:Nat->Nat)(hC:p.C<=256)(hD:D.L=[]/\D.K=[]/\D.nxt=[]/\D.T=[])(hfo:D.fol=p.N.follow.map setOf)
 (hta:D.tak=(List.range p.C).map fun k=>takesTo p.N (lb k) p.N.sets.length):
 Calls Tryz.prog 64 #[.pointer (some ⟨p.g,0,none⟩)] w fun e w'=>(∀ L R,subZ p.N lb p.C=some (L,R)->e=.returned (.bool true)/\∃ ρ' V' bs',SM p ρ' ⟨L,L,R,tagsL p.N L,D.fol,D.tak⟩ V' bs' w')/\(subZ p.N lb p.C=none->e=.returned (.bool false)/\Below p.B p.W0 w'):=by
 have F: ¬ False:=fun h=>h
 have e0:rowA (fun _=>false)=rowA (setOf []):=rowA_nil.symm;have hz0:=xzho;rw [e0]at hz0;have HAD:=zd (xzpo p ρ D V bs w h [] p.N.empty hC (by rw [hD.1,hD.2.2.1,hD.2.2.2];simp));have c264:=h.cells.2.2.2.2.2.2.2.2.1;have HD:=zd (And.intro hmi (And.intro hC (And.intro hfo (And.intro hta hD))));clear h hmi hC hD hfo hta
 go_enter Tryz.func64,Tryz.ntmps64
 go_wp2
 go_step3
 go_wp2_with(refine xzaz rfl 127 _ rfl (cells:=rowA (setOf [])) (by simpa [Act.eval]using hz0) ?_)
 go_at_call 86
 refine HAD.out.mono ?_;rintro e u1 ⟨rfl,ρ1,V1,bs1,h1,_,_,_,_,_,_⟩;go_wp2
 go_step3
 have hs1:SM p ρ1 ⟨[[]],[[]],[]++List.replicate (([[]]:List (List Int)).length - 0) (noRow p.C),tagsL p.N [[]],D.fol,D.tak⟩ V1 bs1 u1:=by
  have h2:=(h1.tn (r':=fun k=>k=2) (o:=none) (fun _ h=>h.elim) (Tn.refl _ _) (fun k e=>by cases e)).newMap (K:=[[]]) (by have:=h1.mp F;rw [show({D with L:=D.L++[[]],nxt:=D.nxt++[List.replicate p.C (-1)],T:=D.T++[p.N.empty]}:SD).K=[]from HD.out.2.2.2.2.2.1]at this;exact this.one)
  have e:({{D with L:=D.L++[[]],nxt:=D.nxt++[List.replicate p.C (-1)],T:=D.T++[p.N.empty]}with K:=[[]]}:SD)=⟨[[]],[[]],[]++List.replicate (([[]]:List (List Int)).length - 0) (noRow p.C),tagsL p.N [[]],D.fol,D.tak⟩:=by
   rw [HD.out.2.2.2.2.1,HD.out.2.2.2.2.2.2.1,HD.out.2.2.2.2.2.2.2];rfl
  rw [<-e];exact h2
 have HS1:=zd hs1;clear h1 hs1 c264;go_wp2
 go_loopw [3,4,5,31] (fun s _ _ _ wr=>∃ at':Nat,s=.int .i64 at'/\at'<=600/\Hid (∃ L R ρ V bs,subTo p.N lb p.C at'=some (L,R)/\R.length=at'/\at'<=L.length/\SM p ρ ⟨L,L,R++List.replicate (L.length - at') (noRow p.C),tagsL p.N L,D.fol,D.tak⟩ V bs wr)) (fun s _ _ _ _=>601 - (intOf s).toNat)
 case atStart=>exact⟨0,rfl,by decide,zd ⟨_,_,_,_,_,rfl,rfl,by decide,HS1.out⟩⟩
 case round=>
  obtain⟨at',rfl,hat6,HH⟩:=hrel;obtain⟨L,R,ρ2,V2,bs2,hsub,hR,hat,hsm⟩:=HH.out;obtain⟨hl1,hl6,_⟩:=xzdz _ _ _ _ _ _ hsub;have HSUB:=zd hsub;have HSM:=zd hsm;obtain⟨As,cs,es,hcs⟩:=(hsm.st F).form;rw [List.length_map]at es;have es':V2.sts=.slice As L.length cs:=es;have c267:=hsm.cells.2.2.2.2.2.2.2.2.2.2.2.1;rw [es']at c267;clear HH hsub es es'
  by_cases hp:at'<L.length
  ·have hdl:decide ((at':Int)<(L.length:Int))=true:=by simp;omega
   have hk1:IntKind.i64.wrap ((at':Int)+1)=((at'+1:Nat):Int):=by rw [IntKind.wrap_i64];omega
   have HLK:=zd (xzug p ρ2 _ V2 bs2 wr hsm HD.out.1 at' hp (by show D.fol.length<=2000;rw [HD.out.2.2.1,List.length_map,HD.out.1.follow];exact HD.out.1.small));clear hsm
   go_wp2_with fail
   go_at_call 87
   refine HLK.out.mono ?_;rintro e u2 ⟨rfl,hb2,hw2⟩
   have hs2:SM p ρ2 ⟨L,L,R++List.replicate (L.length - at') (noRow p.C),tagsL p.N L,D.fol,D.tak⟩ {V2 with reach:=reachOf p.N L at'} bs2 u2:=by
    have h3:=HSM.out.tn (r':=fun k=>k=1) (fun _ h=>h.elim) (Tn.wrote hw2) (fun k e=>by
     obtain rfl:p.g=k:=Option.some.inj e
     exact⟨HSM.out.low.2.1,.inl HSM.out.ro.1⟩)
    refine h3.newReach ?_;unfold reachOf;rw [<-HD.out.2.2.1];exact hb2
   rw [xzlw p.N lb p.C at' R L hp]at hs2;have HS2:=zd hs2;obtain⟨At,ct,et,hct⟩:=(hs2.ta F).form;have et':V2.tak=.slice At D.tak.length ct:=et
   have hleT:D.tak.length=p.C:=by rw [HD.out.2.2.2.1];simp
   have c266a:=hs2.cells.2.2.2.2.2.2.2.2.2.2.1
   have c266:u2.cell? ⟨p.g,266,none⟩=some (.slice At D.tak.length ct):=by rw [<-et'];exact c266a
   clear c266a;rw [hleT]at c266;clear hb2 hw2 HLK c267 et et' hs2;go_wp2
   go_loopw [4,5,31] (fun _ _ i wz=>∃ k:Nat,i=.int .i64 k/\k<=p.C/\Hid ((rowTo p.N lb at' L k).2.length<=600/\∃ ρ V bs,SM p ρ ⟨(rowTo p.N lb at' L k).2,(rowTo p.N lb at' L k).2,nowRows p.C at' k R (rowTo p.N lb at' L k),tagsL p.N (rowTo p.N lb at' L k).2,D.fol,D.tak⟩ V bs wz/\V.reach=reachOf p.N L at')) (fun _ _ i _=>p.C - (intOf i).toNat)
   case atStart=>exact⟨0,rfl,Nat.zero_le _,zd ⟨hl6,_,_,_,HS2.out,rfl⟩⟩
   case round=>
    obtain⟨k,rfl,hk,HK⟩:=hrel
    by_cases hq:k<p.C
    ·have hdq:decide ((k:Int)<(p.C:Int))=true:=by simp;omega
     have hkq:IntKind.i64.wrap ((k:Int)+1)=((k+1:Nat):Int):=by rw [IntKind.wrap_i64];have:=HD.out.2.1;omega
     obtain⟨w9,rfl⟩:∃ w9,w9=wr:=⟨_,rfl⟩;obtain⟨hk6,ρ3,V3,bs3,hs3,hre⟩:=HK.out;clear HK c266
     have hla:at'<(rowTo p.N lb at' L k).2.length:=by obtain⟨l,e⟩:=xzet p.N lb at' L k;rw [e];simp;omega
     have hrl:=xzkg p.N lb at' L k;have hkept:∀ y∈(rowTo p.N lb at' L k).2,Kept p.N y:=xzhh p.N lb at' L (xzhi _ _ _ _ _ _ HSUB.out) k;have hrat:=xztw p.N lb at' L k at' hp
     have hsu:rowTo p.N lb at' L (k+1)=((rowTo p.N lb at' L k).1++[(oneX (rowTo p.N lb at' L k).2 (stepX p.N L at' (lb k))).1],(oneX (rowTo p.N lb at' L k).2 (stepX p.N L at' (lb k))).2):=by
      rw [<-xztx p.N lb at' L k (lb k) hp];rfl
     have HSU:=zd hsu;have hmono:∀ n,(rowTo p.N lb at' L k).2.length<=(rowTo p.N lb at' L (k+n)).2.length:=xzhf p.N lb at' L k;have hge:=xzhf p.N lb at' L (k+1) (p.C - (k+1));rw [show k+1+(p.C - (k+1))=p.C by omega]at hge;have HGE:=zd hge;obtain⟨x,hx⟩:∃ x,x=stepX p.N L at' (lb k):=⟨_,rfl⟩;have hxk:Kept p.N x:=.inr ⟨_,_,by rw [hx];rfl⟩
     have hpl:∀ q∈L.getD at' [],0<=q/\q<(p.N.sets.length:Int):=by
      have hm:L.getD at' []∈L:=by rw [List.getD_eq_getElem?_getD,List.getElem?_eq_getElem hp];exact List.getElem_mem hp
      rcases xzhi _ _ _ _ _ _ HSUB.out _ hm with e|⟨f,b,e⟩
      ·rw [e];intro q hq;cases hq
      ·rw [e];exact yzci
     have hrow:rowA (sAnd (reachOf p.N L at') (takesTo p.N (lb k) p.N.sets.length))=rowA (setOf x):=xzlj fun q _=>by rw [hx];exact yzdy p.N HD.out.1 L at' (lb k) hpl q
     obtain⟨r,hr⟩:∃ r,r=rowTo p.N lb at' L k:=⟨_,rfl⟩;rw [<-hr]at hk6 hs3 hla hrl hkept HSU;rw [<-hx]at HSU;have HSM3:=zd (And.intro hs3 (And.intro hk6 (And.intro hla (And.intro hrl (And.intro hkept (And.intro hre hxk))))))
     have hkt:k<D.tak.length:=by rw [HD.out.2.2.2.1];simpa using hq
     obtain⟨tb,tc,et,eto,htl,htr⟩:=(hs3.ta F).at k hkt;have et':V3.tak=.slice (some ⟨tb,0,none⟩) D.tak.length tc:=et
     have etk:D.tak[k]=takesTo p.N (lb k) p.N.sets.length:=by simp only [HD.out.2.2.2.1];simp
     have htr':RowAt w9 tb (k*32) (takesTo p.N (lb k) p.N.sets.length):=by rw [<-etk];exact htr
     have HRC:=zd (And.intro (BlkF.row (hs3.blk F) (yzdt V3)) htr');have HTC:=zd (fun(u:World) (hu:Below w9.heap.size w9 u)=>(show u.cell? ⟨p.g,266,none⟩=some (.slice (some ⟨tb,0,none⟩) D.tak.length tc)by rw [<-et'];exact(hs3.step hu).cells.2.2.2.2.2.2.2.2.2.2.1))
     have HBO:=zd (fun(u:World) (hu:Below w9.heap.size w9 u)=>(show Calls Tryz.prog 88 #[.pointer (some ⟨p.g,269,none⟩),.pointer (some ⟨tb,k*32,none⟩)] u fun e w'=>e=.returned (.agg (rowA (setOf x)))/\Below u.heap.size u w' by
      have hb:=xzqy p.g 269 V3.reach (takesTo p.N (lb k) p.N.sets.length) tb (k*32) u (HRC.out.1.step hu) (HRC.out.2.step hu);rw [hre,hrow]at hb
      exact hb))
     have hktI:(k:Int)<(D.tak.length:Int):=by omega
     clear hs3 hk6 hla hrl hkept hre hsu hmono hge hpl hrow et et' etk htr htr' hrat hxk hr hx
     go_wp2_with fail
     refine xzaf 11 73 (fun u=>Hid (Below w9.heap.size w9 u)) (fun _ u u'=>Below u.heap.size u u')
      (fun i v u=>match i with
       |0=>v=.pointer (some ⟨p.g,0,none⟩)
       |1=>v=.pointer (some ⟨p.g,0,none⟩)
       |2=>v=.pointer (some ⟨p.g,269,none⟩)
       |3=>v=.pointer (some ⟨p.g,0,none⟩)
       |4=>v=.pointer (some ⟨p.g,0,none⟩)
       |5=>v=.pointer (some ⟨p.g,266,none⟩)
       |6=>v=.slice (some ⟨tb,0,none⟩) D.tak.length tc
       |7=>v=.int .i64 (k:Nat)
       |8=>v=.pointer (some ⟨tb,k*32,none⟩)
       |9=>v=.agg (rowA (setOf x))
       |10=>∃ b,v=.pointer (some ⟨b,0,none⟩)/\BlkF u b 127 32 (rowP fun _=>false)/\w9.heap.size<=b
       |_=>True) (by kernel_rfl) (by kernel_rfl) rfl (zd (Below.refl _ _).drew) ?_ ?_ ?_ ?_
     ·intro i u u' hix hC hr
      exact zd (hC.out.trans (hr.mono hC.out.size))
     ·intro i j v u u' hix hj hne hv hr
      match i,hix,hne,hv with
      |0,_,_,hv=>exact hv
      |1,_,_,hv=>exact hv
      |2,_,_,hv=>exact hv
      |3,_,_,hv=>exact hv
      |4,_,_,hv=>exact hv
      |5,_,_,hv=>exact hv
      |6,_,_,hv=>exact hv
      |7,_,_,hv=>exact hv
      |8,_,_,hv=>exact hv
      |9,_,_,hv=>exact hv
      |10,_,hne,hv=>
       obtain⟨b,e1,e2,e3⟩:=hv;exact⟨b,e1,BlkIs.step e2 hr,e3⟩
      |i+11,hix,_,_=>omega
     ·intro i hix vs u hC hw oq ho
      match i,hix,hw,ho with
      |0,_,hw,ho=>
       simp only [zq,zh]at ho;subst ho;refine⟨rfl,?_⟩;have k266:=HTC.out u hC.out;clear hw;simp only [xzaa,tmpsTo];go_simp;exact xzab (Below.refl _ _) rfl
      |1,_,hw,ho=>
       have e0:vs 0=.pointer (some ⟨p.g,0,none⟩):=hw 0 (by omega) (by kernel_rfl);simp only [zq,zh]at ho;subst ho;refine⟨rfl,?_⟩;have k266:=HTC.out u hC.out;clear hw;simp only [xzaa,tmpsTo,putT,zr];rw [e0];clear e0;go_simp;exact xzab (Below.refl _ _) rfl
      |2,_,hw,ho=>
       have e1:vs 1=.pointer (some ⟨p.g,0,none⟩):=hw 1 (by omega) (by kernel_rfl);simp only [zq,zh]at ho;subst ho;refine⟨rfl,?_⟩;have k266:=HTC.out u hC.out;clear hw;simp only [xzaa,tmpsTo,putT,zr];rw [e1];clear e1;go_simp;exact xzab (Below.refl _ _) rfl
      |3,_,hw,ho=>
       simp only [zq,zh]at ho;subst ho;refine⟨rfl,?_⟩;have k266:=HTC.out u hC.out;clear hw;simp only [xzaa,tmpsTo,putT,zr];go_simp;exact xzab (Below.refl _ _) rfl
      |4,_,hw,ho=>
       have e3:vs 3=.pointer (some ⟨p.g,0,none⟩):=hw 3 (by omega) (by kernel_rfl);simp only [zq,zh]at ho;subst ho;refine⟨rfl,?_⟩;have k266:=HTC.out u hC.out;clear hw;simp only [xzaa,tmpsTo,putT,zr];rw [e3];clear e3;go_simp;exact xzab (Below.refl _ _) rfl
      |5,_,hw,ho=>
       have e4:vs 4=.pointer (some ⟨p.g,0,none⟩):=hw 4 (by omega) (by kernel_rfl);simp only [zq,zh]at ho;subst ho;refine⟨rfl,?_⟩;have k266:=HTC.out u hC.out;clear hw;simp only [xzaa,tmpsTo,putT,zr];rw [e4];clear e4;go_simp;exact xzab (Below.refl _ _) rfl
      |6,_,hw,ho=>
       have e5:vs 5=.pointer (some ⟨p.g,266,none⟩):=hw 5 (by omega) (by kernel_rfl);simp only [zq,zh]at ho;subst ho;refine⟨rfl,?_⟩;have k266:=HTC.out u hC.out;clear hw;simp only [xzaa,tmpsTo,putT,zr];rw [e5];clear e5;go_simp;exact xzab (Below.refl _ _) rfl
      |7,_,hw,ho=>
       simp only [zq,zh]at ho;subst ho;refine⟨rfl,?_⟩;have k266:=HTC.out u hC.out;clear hw;simp only [xzaa,tmpsTo,putT,zr];go_simp;exact xzab (Below.refl _ _) rfl
      |8,_,hw,ho=>
       have e6:vs 6=.slice (some ⟨tb,0,none⟩) D.tak.length tc:=hw 6 (by omega) (by kernel_rfl);have e7:vs 7=.int .i64 (k:Nat):=hw 7 (by omega) (by kernel_rfl);simp only [zq,zh]at ho;subst ho;refine⟨rfl,?_⟩;have k266:=HTC.out u hC.out;clear hw;simp only [xzaa,tmpsTo,putT,zr];rw [e6,e7];clear e6 e7;go_simp;exact xzab (Below.refl _ _) rfl
      |9,_,hw,ho=>
       have e2:vs 2=.pointer (some ⟨p.g,269,none⟩):=hw 2 (by omega) (by kernel_rfl);have e8:vs 8=.pointer (some ⟨tb,k*32,none⟩):=hw 8 (by omega) (by kernel_rfl);simp only [zq,zh]at ho;subst ho;refine⟨rfl,?_⟩;have k266:=HTC.out u hC.out;clear hw;simp only [xzaa,tmpsTo,putT,zr];rw [e2,e8];clear e2 e8;go_simp;refine xzak ?_
       go_at_call 88
       refine(HBO.out u hC.out).mono ?_;rintro e u' ⟨rfl,hb⟩;exact⟨_,rfl,hb,rfl⟩
      |10,_,hw,ho=>
       simp only [zq,zh]at ho;subst ho;refine⟨rfl,?_⟩;have k266:=HTC.out u hC.out;clear hw;simp only [xzaa,tmpsTo,putT,zr];have z:=zeroRw;go_simp;exact xzab ((Below.refl _ _).alloc (Nat.le_refl _) _) ⟨_,rfl,newF _ _ _,hC.out.size⟩
      |i+11,hix,_,_=>omega
     intro vs1 u hC hV;obtain⟨b5,e10,hb5,hb5l⟩:∃ b,vs1 10=.pointer (some ⟨b,0,none⟩)/\BlkF u b 127 32 (rowP fun _=>false)/\w9.heap.size<=b:=hV 10 (by omega);have e9:vs1 9=.agg (rowA (setOf x)):=hV 9 (by omega);clear hV;simp only [xzaa,tmpsTo,putT,zr,List.drop_succ_cons,List.drop_zero];rw [e9,e10];generalize vs1 0=q0;generalize vs1 1=q1;generalize vs1 2=q2;generalize vs1 3=q3;generalize vs1 4=q4;generalize vs1 5=q5;generalize vs1 6=q6;generalize vs1 7=q7;generalize vs1 8=q8
     by_cases hxe:x=[]
     ·have heq:=yzck (setOf x)
      rw [xzlp p.N (by have:=HD.out.1.small;omega) x HSM3.out.2.2.2.2.2.2,decide_eq_true hxe]at heq
      go_wp2_with(first
       |(refine xzam rfl 127 _ _ rfl rfl rfl hb5 (by rw [xzav,xzax]) (by rw [xzav];exact infoRw) (xzff _) ?_;intro w10 hb10 hw10;have HX5:=zd (BlkF.row (t:=127) (N:=32) (F:=rowP (setOf x)) hb10 (xzbm _));have HB10:=zd (hw10.2.1 _ _ hb5l hC.out))
       |(refine xzcc rfl _ rfl rfl HX5.out ?_)
       |(refine xzaz rfl 127 _ rfl (cells:=rowA fun _=>false) (by simpa [Act.eval]using xzho) ?_)
       |(refine xzje rfl 127 _ _ _ _ rfl rfl rfl (by kernel_rfl) (heq _) ?_))
      have hs10:=HSM3.out.1.step HB10.out
      have HN:=zd (show(rowTo p.N lb at' L (k+1)).2.length<=600/\∃ ρ V bs,SM p ρ ⟨(rowTo p.N lb at' L (k+1)).2,(rowTo p.N lb at' L (k+1)).2,nowRows p.C at' (k+1) R (rowTo p.N lb at' L (k+1)),tagsL p.N (rowTo p.N lb at' L (k+1)).2,D.fol,D.tak⟩ V bs w10/\V.reach=reachOf p.N L at' from by
       have e:rowTo p.N lb at' L (k+1)=(r.1++[-1],r.2):=by rw [HSU.out,hxe];rfl
       rw [e];refine⟨HSM3.out.2.1,ρ3,V3,bs3,?_,HSM3.out.2.2.2.2.2.1⟩;rw [xznq p.C at' k R r hq]at hs10
       exact hs10)
      clear hs10;exact⟨⟨k+1,rfl,by omega,HN⟩,by simp [intOf];omega⟩
     ·have heq:=yzck (setOf x)
      rw [xzlp p.N (by have:=HD.out.1.small;omega) x HSM3.out.2.2.2.2.2.2,decide_eq_false hxe]at heq
      go_wp2_with(first
       |(refine xzam rfl 127 _ _ rfl rfl rfl hb5 (by rw [xzav,xzax]) (by rw [xzav];exact infoRw) (xzff _) ?_;intro w10 hb10 hw10;have HX5:=zd (BlkF.row (t:=127) (N:=32) (F:=rowP (setOf x)) hb10 (xzbm _));have HB10:=zd (hw10.2.1 _ _ hb5l hC.out))
       |(refine xzcc rfl _ rfl rfl HX5.out ?_)
       |(refine xzaz rfl 127 _ rfl (cells:=rowA fun _=>false) (by simpa [Act.eval]using xzho) ?_)
       |(refine xzje rfl 127 _ _ _ _ rfl rfl rfl (by kernel_rfl) (heq _) ?_))
      cases hf:findL r.2 x with
      |some fi=>
       have hfi:=xzlm hf;have hst10:=HSM3.out.1.step HB10.out;have hnl:(nowRows p.C at' k R r).length=r.2.length:=xzfj p.C at' k R r hR HSM3.out.2.2.1;have hnx:=hst10.nx F
       have hnx':w10.ownsRow p.B 26 1 V3.next r.2.length (hdrs bs3 p.C r.2.length):=by rw [<-hnl];exact hnx
       obtain⟨ob,oc,eo,hoo⟩:∃ ob oc,V3.next=.slice (some ⟨ob,0,none⟩) r.2.length oc/\w10.cell? ⟨ob,at',none⟩=some (.slice (some ⟨bs3 at',0,none⟩) p.C p.C):=by
        rcases hnx'.2 with⟨_,h0⟩|⟨g,cap,cur,e,_,_,_⟩
        ·have:=HSM3.out.2.2.1;omega
        ·refine⟨g,cap,e,?_⟩
         have:=World.ownsRow.cells (g:=g) hnx' (by rw [e];rfl) at' (.slice (some ⟨bs3 at',0,none⟩) p.C p.C) (by unfold hdrs;rw [List.getElem?_map,List.getElem?_range HSM3.out.2.2.1];rfl)
         rwa [Addr.add_lit,Nat.zero_add]at this
       have HNX:=zd (fun(u:World) (hu:Below w10.heap.size w10 u)=>(show u.cell? ⟨p.g,257,none⟩=some (.slice (some ⟨ob,0,none⟩) r.2.length oc)/\u.cell? ⟨ob,at',none⟩=some (.slice (some ⟨bs3 at',0,none⟩) p.C p.C)/\RowAt u b5 0 (setOf x)from
        ⟨by rw [<-eo];exact(hst10.step hu).cells.2.1,(hu.cell (p:=⟨ob,at',none⟩) (World.block_lt_of_cell? w10 ⟨ob,at',none⟩ hoo)).trans hoo,HX5.out.step hu⟩))
       have hli:(at':Int)<(r.2.length:Int):=by have:=HSM3.out.2.2.1;omega
       have hki:(k:Int)<(p.C:Int):=by omega
       have HNO:=zd (fun(u:World) (hu:Below w10.heap.size w10 u)=>xzzc p ρ3 _ V3 bs3 u (hst10.step hu) x fi rfl hf);have HS10:=zd hst10;clear hst10 hnx hnx' hoo eo
       go_wp2_with fail
       refine xzaf 13 73 (fun u=>Hid (Below w10.heap.size w10 u)) (fun _ u u'=>Below u.heap.size u u')
        (fun i v u=>match i with
         |0=>v=.pointer (some ⟨p.g,0,none⟩)
         |1=>v=.pointer (some ⟨p.g,0,none⟩)
         |2=>v=.pointer (some ⟨p.g,0,none⟩)
         |3=>v=.pointer (some ⟨p.g,257,none⟩)
         |4=>v=.slice (some ⟨ob,0,none⟩) r.2.length oc
         |5=>v=.int .i64 (at':Nat)
         |6=>v=.pointer (some ⟨ob,at',none⟩)
         |7=>v=.slice (some ⟨bs3 at',0,none⟩) p.C p.C
         |8=>v=.int .i64 (k:Nat)
         |9=>v=.pointer (some ⟨p.g,0,none⟩)
         |10=>v=.agg (rowA (setOf x))
         |11=>v=.int .i64 (fi:Nat)
         |12=>v=.pointer (some ⟨bs3 at',k,none⟩)
         |_=>True) (by kernel_rfl) (by kernel_rfl) rfl (zd (Below.refl _ _).drew) ?_ ?_ ?_ ?_
       ·intro i u u' hix hC hr
        exact zd (hC.out.trans (hr.mono hC.out.size))
       ·intro i j v u u' hix hj hne hv hr
        match i,hix,hne,hv with
        |0,_,_,hv=>exact hv
        |1,_,_,hv=>exact hv
        |2,_,_,hv=>exact hv
        |3,_,_,hv=>exact hv
        |4,_,_,hv=>exact hv
        |5,_,_,hv=>exact hv
        |6,_,_,hv=>exact hv
        |7,_,_,hv=>exact hv
        |8,_,_,hv=>exact hv
        |9,_,_,hv=>exact hv
        |10,_,_,hv=>exact hv
        |11,_,_,hv=>exact hv
        |12,_,_,hv=>exact hv
        |i+13,hix,_,_=>omega
       ·intro i hix vs u hC hw oq ho
        match i,hix,hw,ho with
        |0,_,hw,ho=>
         simp only [zq,zh]at ho;subst ho;refine⟨rfl,?_⟩;obtain⟨k257,kat,hxr⟩:=HNX.out u hC.out;clear hw;simp only [xzaa,tmpsTo];go_simp;exact xzab (Below.refl _ _) rfl
        |1,_,hw,ho=>
         have e0:vs 0=.pointer (some ⟨p.g,0,none⟩):=hw 0 (by omega) (by kernel_rfl);simp only [zq,zh]at ho;subst ho;refine⟨rfl,?_⟩;obtain⟨k257,kat,hxr⟩:=HNX.out u hC.out;clear hw;simp only [xzaa,tmpsTo,putT,zr];rw [e0];clear e0;go_simp;exact xzab (Below.refl _ _) rfl
        |2,_,hw,ho=>
         have e1:vs 1=.pointer (some ⟨p.g,0,none⟩):=hw 1 (by omega) (by kernel_rfl);simp only [zq,zh]at ho;subst ho;refine⟨rfl,?_⟩;obtain⟨k257,kat,hxr⟩:=HNX.out u hC.out;clear hw;simp only [xzaa,tmpsTo,putT,zr];rw [e1];clear e1;go_simp;exact xzab (Below.refl _ _) rfl
        |3,_,hw,ho=>
         have e2:vs 2=.pointer (some ⟨p.g,0,none⟩):=hw 2 (by omega) (by kernel_rfl);simp only [zq,zh]at ho;subst ho;refine⟨rfl,?_⟩;obtain⟨k257,kat,hxr⟩:=HNX.out u hC.out;clear hw;simp only [xzaa,tmpsTo,putT,zr];rw [e2];clear e2;go_simp;exact xzab (Below.refl _ _) rfl
        |4,_,hw,ho=>
         have e3:vs 3=.pointer (some ⟨p.g,257,none⟩):=hw 3 (by omega) (by kernel_rfl);simp only [zq,zh]at ho;subst ho;refine⟨rfl,?_⟩;obtain⟨k257,kat,hxr⟩:=HNX.out u hC.out;clear hw;simp only [xzaa,tmpsTo,putT,zr];rw [e3];clear e3;go_simp;exact xzab (Below.refl _ _) rfl
        |5,_,hw,ho=>
         simp only [zq,zh]at ho;subst ho;refine⟨rfl,?_⟩;obtain⟨k257,kat,hxr⟩:=HNX.out u hC.out;clear hw;simp only [xzaa,tmpsTo,putT,zr];go_simp;exact xzab (Below.refl _ _) rfl
        |6,_,hw,ho=>
         have e4:vs 4=.slice (some ⟨ob,0,none⟩) r.2.length oc:=hw 4 (by omega) (by kernel_rfl);have e5:vs 5=.int .i64 (at':Nat):=hw 5 (by omega) (by kernel_rfl);simp only [zq,zh]at ho;subst ho;refine⟨rfl,?_⟩;obtain⟨k257,kat,hxr⟩:=HNX.out u hC.out;clear hw;simp only [xzaa,tmpsTo,putT,zr];rw [e4,e5];clear e4 e5;go_simp;exact xzab (Below.refl _ _) rfl
        |7,_,hw,ho=>
         have e6:vs 6=.pointer (some ⟨ob,at',none⟩):=hw 6 (by omega) (by kernel_rfl);simp only [zq,zh]at ho;subst ho;refine⟨rfl,?_⟩;obtain⟨k257,kat,hxr⟩:=HNX.out u hC.out;clear hw;simp only [xzaa,tmpsTo,putT,zr];rw [e6];clear e6;go_simp;exact xzab (Below.refl _ _) rfl
        |8,_,hw,ho=>
         simp only [zq,zh]at ho;subst ho;refine⟨rfl,?_⟩;obtain⟨k257,kat,hxr⟩:=HNX.out u hC.out;clear hw;simp only [xzaa,tmpsTo,putT,zr];go_simp;exact xzab (Below.refl _ _) rfl
        |9,_,hw,ho=>
         simp only [zq,zh]at ho;subst ho;refine⟨rfl,?_⟩;obtain⟨k257,kat,hxr⟩:=HNX.out u hC.out;clear hw;simp only [xzaa,tmpsTo,putT,zr];go_simp;exact xzab (Below.refl _ _) rfl
        |10,_,hw,ho=>
         simp only [zq,zh]at ho;subst ho;refine⟨rfl,?_⟩;obtain⟨k257,kat,hxr⟩:=HNX.out u hC.out;clear hw;rw [xzdb (v:=.agg (rowA (setOf x))) 127 (.tmp 5) (.pointer (some ⟨b5,0,none⟩)) rfl (by rw [xzaa];kernel_rfl) (loadRw hxr)];exact xzab (Below.refl _ _) rfl
        |11,_,hw,ho=>
         have e9:vs 9=.pointer (some ⟨p.g,0,none⟩):=hw 9 (by omega) (by kernel_rfl);have e10:vs 10=.agg (rowA (setOf x)):=hw 10 (by omega) (by kernel_rfl);simp only [zq,zh]at ho;subst ho;refine⟨rfl,?_⟩;obtain⟨k257,kat,hxr⟩:=HNX.out u hC.out;clear hw;simp only [xzaa,tmpsTo,putT,zr];rw [e9,e10];clear e9 e10;go_simp;refine xzak ?_
         go_at_call 89
         refine(HNO.out u hC.out).mono ?_;rintro e u' ⟨rfl,hb⟩;exact⟨_,rfl,hb,rfl⟩
        |12,_,hw,ho=>
         have e7:vs 7=.slice (some ⟨bs3 at',0,none⟩) p.C p.C:=hw 7 (by omega) (by kernel_rfl);have e8:vs 8=.int .i64 (k:Nat):=hw 8 (by omega) (by kernel_rfl);simp only [zq,zh]at ho;subst ho;refine⟨rfl,?_⟩;obtain⟨k257,kat,hxr⟩:=HNX.out u hC.out;clear hw;simp only [xzaa,tmpsTo,putT,zr];rw [e7,e8];clear e7 e8;go_simp;exact xzab (Below.refl _ _) rfl
        |i+13,hix,_,_=>omega
       intro vs2 u3 hC3 hV3;have e11:vs2 11=.int .i64 (fi:Nat):=hV3 11 (by omega);have e12:vs2 12=.pointer (some ⟨bs3 at',k,none⟩):=hV3 12 (by omega);clear hV3;simp only [xzaa,tmpsTo,putT,zr,List.drop_succ_cons,List.drop_zero];rw [e11,e12];generalize vs2 0=t0;generalize vs2 1=t1;generalize vs2 2=t2;generalize vs2 3=t3;generalize vs2 4=t4;generalize vs2 5=t5;generalize vs2 6=t6;generalize vs2 7=t7;generalize vs2 8=t8;generalize vs2 9=t9;generalize vs2 10=t10;have hs13:=HS10.out.step hC3.out;have hb13:=hs13.rw at' (by show at'<(nowRows p.C at' k R r).length;rw [hnl];exact HSM3.out.2.2.1) F
       have hlx:(at':Nat)<(nowRows p.C at' k R r).length:=by rw [hnl];exact HSM3.out.2.2.1
       have hat13:(nowRows p.C at' k R r)[at']=r.1++List.replicate (p.C - k) (-1):=xzlx p.C at' k R r hR hlx
       have hb13':BlkF u3 (bs3 at') 3 p.C (intF (r.1++List.replicate (p.C - k) (-1))):=by rw [<-hat13];exact hb13
       have hcb:=hb13'.cell hq;have hfz13:=BlkIs.frozen hb13' k;have hput:=xzus r.1 k p.C (fi:Nat) hq HSM3.out.2.2.2.1 (hb13'.put k (.int .i64 (fi:Nat)))
       have hs14:=(hs13.tn (r':=fun q=>q=8+at') (fun _ h=>h.elim) (Tn.wrote (Wrote.cell u3 (bs3 at') k (.int .i64 (fi:Nat)))) (fun q e=>by
        obtain rfl:bs3 at'=q:=Option.some.inj e
        exact⟨hs13.rlow at' hlx,.inl (hs13.rr at' hlx)⟩)).newRow (l:=r.1++((fi:Nat):Int)::List.replicate (p.C - (k+1)) (-1)) hlx hput
       have e14:rowTo p.N lb at' L (k+1)=(r.1++[((fi:Nat):Int)],r.2):=by rw [HSU.out];simp only [oneX,if_neg hxe,hf]
       have HN:=zd (show(rowTo p.N lb at' L (k+1)).2.length<=600/\∃ ρ V bs,SM p ρ ⟨(rowTo p.N lb at' L (k+1)).2,(rowTo p.N lb at' L (k+1)).2,nowRows p.C at' (k+1) R (rowTo p.N lb at' L (k+1)),tagsL p.N (rowTo p.N lb at' L (k+1)).2,D.fol,D.tak⟩ V bs (u3.setCell ⟨bs3 at',k,none⟩ (.int .i64 (fi:Nat)))/\V.reach=reachOf p.N L at' from by
        rw [e14];refine⟨HSM3.out.2.1,ρ3,V3,bs3,?_,HSM3.out.2.2.2.2.2.1⟩;have:=hs14;rw [show(⟨r.2,r.2,nowRows p.C at' k R r,tagsL p.N r.2,D.fol,D.tak⟩:SD).nxt.set at' (r.1++((fi:Nat):Int)::List.replicate (p.C - (k+1)) (-1))=nowRows p.C at' (k+1) R (r.1++[((fi:Nat):Int)],r.2)from xzjf p.C at' k R r _ hR]at this
        exact this)
       obtain⟨A14,c14,es14,_⟩:=(hs14.st F).form
       have es15:V3.sts=.slice A14 r.2.length c14:=by rw [es14];simp
       have k267:=hs14.cells.2.2.2.2.2.2.2.2.2.2.2.1;rw [es15]at k267
       have hd600:decide ((r.2.length:Int)>600)=false:=by have:=HSM3.out.2.1;simp;omega
       have hd601:decide ((600:Int)<(r.2.length:Int))=false:=by have:=HSM3.out.2.1;simp;omega
       clear hs13 hb13 hb13' hput hs14 es14 es15;go_wp2;exact⟨⟨k+1,rfl,by omega,HN⟩,by simp [intOf];omega⟩
      |none=>
       have hst10:=(HSM3.out.1.role (some b5) 0 (fun q e=>.inr (by injection e;omega))).step HB10.out
       have hz5:(fun q=>if some b5=some q then 0 else ρ3 q) b5=0:=by simp
       generalize(fun q=>if some b5=some q then 0 else ρ3 q)=ρ5 at*;have hnl:(nowRows p.C at' k R r).length=r.2.length:=xzfj p.C at' k R r hR HSM3.out.2.2.1;have hnx:=hst10.nx F
       have hnx':w10.ownsRow p.B 26 1 V3.next r.2.length (hdrs bs3 p.C r.2.length):=by rw [<-hnl];exact hnx
       obtain⟨ob,oc,eo,hoo⟩:∃ ob oc,V3.next=.slice (some ⟨ob,0,none⟩) r.2.length oc/\w10.cell? ⟨ob,at',none⟩=some (.slice (some ⟨bs3 at',0,none⟩) p.C p.C):=by
        rcases hnx'.2 with⟨_,h0⟩|⟨g,cap,cur,e,_,_,_⟩
        ·have:=HSM3.out.2.2.1;omega
        ·refine⟨g,cap,e,?_⟩
         have:=World.ownsRow.cells (g:=g) hnx' (by rw [e];rfl) at' (.slice (some ⟨bs3 at',0,none⟩) p.C p.C) (by unfold hdrs;rw [List.getElem?_map,List.getElem?_range HSM3.out.2.2.1];rfl)
         rwa [Addr.add_lit,Nat.zero_add]at this
       have HNX:=zd (fun(u:World) (hu:Below w10.heap.size w10 u)=>(show u.cell? ⟨p.g,257,none⟩=some (.slice (some ⟨ob,0,none⟩) r.2.length oc)/\u.cell? ⟨ob,at',none⟩=some (.slice (some ⟨bs3 at',0,none⟩) p.C p.C)/\RowAt u b5 0 (setOf x)from
        ⟨by rw [<-eo];exact(hst10.step hu).cells.2.1,(hu.cell (p:=⟨ob,at',none⟩) (World.block_lt_of_cell? w10 ⟨ob,at',none⟩ hoo)).trans hoo,HX5.out.step hu⟩))
       have hli:(at':Int)<(r.2.length:Int):=by have:=HSM3.out.2.2.1;omega
       have hki:(k:Int)<(p.C:Int):=by omega
       obtain⟨As9,cs9,es9,_⟩:=(hst10.st F).form
       have es10:V3.sts=.slice As9 r.2.length cs9:=by rw [es9];simp
       have HNT:=zd (fun(u:World) (hu:Below w10.heap.size w10 u) (A:Option Addr) (c:Nat) (e:u.cell? ⟨p.g,267,none⟩=some (.slice A (r.2.length+1) c))=>(show False by
        have h1:=(hst10.step hu).cells.2.2.2.2.2.2.2.2.2.2.2.1;rw [es10,e]at h1
        injection h1 with h1
        injection h1 with _ h1
        omega))
       have hbl:b5<w10.heap.size:=World.block_lt_of_cell? w10 ⟨b5,0+0,none⟩ (HX5.out 0 (by decide))
       have HNO:=zd (fun(u:World) (hu:Below w10.heap.size w10 u)=>((xzzd p ρ5 _ V3 bs3 u (hst10.step hu) x rfl hf HD.out.1 (by show 1<=r.2.length;have:=HSM3.out.2.2.1;omega) HSM3.out.2.2.2.2.1 HSM3.out.2.2.2.2.2.2 HD.out.2.1 ⟨by show r.2.length<=1000;have:=HSM3.out.2.1;omega,hnl,xzzv _ _⟩).mono fun e u' hh=>(show e=.returned (.int .i64 (r.2.length:Nat))/\(∃ ρ' V' bs',SM p ρ' (growD p ⟨r.2,r.2,nowRows p.C at' k R r,tagsL p.N r.2,D.fol,D.tak⟩ x) V' bs' u'/\V'.reach=reachOf p.N L at'/\bs' at'=bs3 at')/\u'.cell? ⟨ob,at',none⟩=some (.slice (some ⟨bs3 at',0,none⟩) p.C p.C)/\RowAt u' b5 0 (setOf x)from by
        obtain⟨g0,ρ',V',bs',g1,g2,g3,g4,g5,g6,g7⟩:=hh;refine⟨g0,⟨ρ',V',bs',g1,g2.trans HSM3.out.2.2.2.2.2.1,g7 at' (by show at'<(nowRows p.C at' k R r).length;rw [hnl];exact HSM3.out.2.2.1)⟩,?_,(HX5.out.step hu).heap (g5 b5 (Nat.lt_of_lt_of_le hbl hu.size) hz5)⟩
        have g6':u'.ownsRow p.B 26 1 V3.next r.2.length (hdrs bs3 p.C r.2.length):=by rw [<-hnl];exact g6
        have:=World.ownsRow.cells (g:=ob) g6' (by rw [eo];rfl) at' (.slice (some ⟨bs3 at',0,none⟩) p.C p.C) (by unfold hdrs;rw [List.getElem?_map,List.getElem?_range HSM3.out.2.2.1];rfl)
        rwa [Addr.add_lit,Nat.zero_add]at this)))
       have HLD:=zd (fun(c:Bool) (u:World) (hC:Hid ((c=false->Below w10.heap.size w10 u)/\(c=true->(∃ ρ' V' bs',SM p ρ' (growD p ⟨r.2,r.2,nowRows p.C at' k R r,tagsL p.N r.2,D.fol,D.tak⟩ x) V' bs' u/\V'.reach=reachOf p.N L at'/\bs' at'=bs3 at'))/\RowAt u b5 0 (setOf x)))=>(show ∃ b m c,u.cell? ⟨p.g,257,none⟩=some (.slice (some ⟨b,0,none⟩) m c)/\at'<m/\u.cell? ⟨b,at',none⟩=some (.slice (some ⟨bs3 at',0,none⟩) p.C p.C)/\(b=ob\/(∃ A c,u.cell? ⟨p.g,267,none⟩=some (.slice A (r.2.length+1) c)))by
        cases c with
        |false=>
         obtain⟨k257,kat,_⟩:=HNX.out u (hC.out.1 rfl);exact⟨ob,r.2.length,oc,k257,HSM3.out.2.2.1,kat,.inl rfl⟩
        |true=>
         obtain⟨ρ',V',bs',g1,_,g3⟩:=hC.out.2.1 rfl;have hn:=g1.nx F
         have hl:(growD p ⟨r.2,r.2,nowRows p.C at' k R r,tagsL p.N r.2,D.fol,D.tak⟩ x).nxt.length=r.2.length+1:=by
          show(nowRows p.C at' k R r++[_]).length=_
          rw [List.length_append,hnl];rfl
         rw [hl]at hn;obtain⟨A7,c7,e7,_⟩:=(g1.st F).form;have k267:=g1.cells.2.2.2.2.2.2.2.2.2.2.2.1;rw [e7]at k267
         rcases hn.2 with⟨_,h0⟩|⟨g,cap,cur,e,_,_,_⟩
         ·omega
         ·refine⟨g,r.2.length+1,cap,by rw [<-e];exact g1.cells.2.1,by have:=HSM3.out.2.2.1;omega,?_,.inr ⟨A7,c7,by rw [k267];unfold growD;simp⟩⟩
          have:=World.ownsRow.cells (g:=g) hn (by rw [e];rfl) at' (.slice (some ⟨bs3 at',0,none⟩) p.C p.C) (by unfold hdrs;rw [List.getElem?_map,List.getElem?_range (by have:=HSM3.out.2.2.1;omega)];simp only [Option.map_some,g3])
          rwa [Addr.add_lit,Nat.zero_add]at this))
       clear hst10 hnx hnx' hoo eo es9 es10
       go_wp2_with fail
       refine xzck 13 73 11 (fun c u=>Hid ((c=false->Below w10.heap.size w10 u)/\(c=true->(∃ ρ' V' bs',SM p ρ' (growD p ⟨r.2,r.2,nowRows p.C at' k R r,tagsL p.N r.2,D.fol,D.tak⟩ x) V' bs' u/\V'.reach=reachOf p.N L at'/\bs' at'=bs3 at'))/\RowAt u b5 0 (setOf x))) (fun i u u'=>(i=11->Hid (Below w10.heap.size w10 u/\(∃ ρ' V' bs',SM p ρ' (growD p ⟨r.2,r.2,nowRows p.C at' k R r,tagsL p.N r.2,D.fol,D.tak⟩ x) V' bs' u'/\V'.reach=reachOf p.N L at'/\bs' at'=bs3 at')/\u'.cell? ⟨ob,at',none⟩=some (.slice (some ⟨bs3 at',0,none⟩) p.C p.C)/\RowAt u' b5 0 (setOf x)))/\(i≠11->Below u.heap.size u u'))
        (fun i v u=>match i with
         |0=>v=.pointer (some ⟨p.g,0,none⟩)
         |1=>v=.pointer (some ⟨p.g,0,none⟩)
         |2=>v=.pointer (some ⟨p.g,0,none⟩)
         |3=>v=.pointer (some ⟨p.g,257,none⟩)
         |4=>∃ b m c,v=.slice (some ⟨b,0,none⟩) m c/\at'<m/\u.cell? ⟨b,at',none⟩=some (.slice (some ⟨bs3 at',0,none⟩) p.C p.C)/\(b=ob\/(∃ A c,u.cell? ⟨p.g,267,none⟩=some (.slice A (r.2.length+1) c)))
         |5=>v=.int .i64 (at':Nat)
         |6=>∃ b,v=.pointer (some ⟨b,at',none⟩)/\u.cell? ⟨b,at',none⟩=some (.slice (some ⟨bs3 at',0,none⟩) p.C p.C)/\(b=ob\/(∃ A c,u.cell? ⟨p.g,267,none⟩=some (.slice A (r.2.length+1) c)))
         |7=>v=.slice (some ⟨bs3 at',0,none⟩) p.C p.C
         |8=>v=.int .i64 (k:Nat)
         |9=>v=.pointer (some ⟨p.g,0,none⟩)
         |10=>v=.agg (rowA (setOf x))
         |11=>v=.int .i64 (r.2.length:Nat)
         |12=>v=.pointer (some ⟨bs3 at',k,none⟩)
         |_=>True) (by kernel_rfl) (by kernel_rfl) rfl (zd ⟨fun _=>(Below.refl _ _).drew,fun e=>(by cases e),HX5.out.heap rfl⟩) ?_ ?_ ?_ ?_
       ·intro i cph u u' hix hcx hC hr
        by_cases hi11:i=11
        ·have h:=(hr.1 hi11).out
         rw [decide_eq_true hi11,Bool.or_true];exact zd ⟨fun e=>(by cases e),fun _=>h.2.1,h.2.2.2⟩
        ·have hb:=hr.2 hi11
         rw [decide_eq_false hi11,Bool.or_false]
         exact zd ⟨fun e=>(hC.out.1 e).trans (hb.mono (hC.out.1 e).size),fun e=>by
          obtain⟨ρ',V',bs',s1,s2⟩:=hC.out.2.1 e
          exact⟨ρ',V',bs',s1.step hb,s2⟩,hC.out.2.2.step hb⟩
       ·intro i j v u u' hix hj hne hv hr
        match i,hix,hne,hv with
        |0,_,_,hv=>exact hv
        |1,_,_,hv=>exact hv
        |2,_,_,hv=>exact hv
        |3,_,_,hv=>exact hv
        |4,_,hne,hv=>
         obtain⟨b,m,c,e1,e2,hce,hob⟩:=hv;refine⟨b,m,c,e1,e2,?_,?_⟩
         ·by_cases hj11:j=11
          ·rcases hob with e|⟨A,c,e⟩
           ·rw [e];exact(hr.1 hj11).out.2.2.1
           ·exact absurd e (HNT.out u (hr.1 hj11).out.1 A c)
          ·exact((hr.2 hj11).cell (World.block_lt_of_cell? _ _ hce)).trans hce
         ·by_cases hj11:j=11
          ·rcases hob with e|⟨A,c,e⟩
           ·exact .inl e
           ·exact absurd e (HNT.out u (hr.1 hj11).out.1 A c)
          ·exact hob.imp id fun⟨A,c,e⟩=>⟨A,c,((hr.2 hj11).cell (World.block_lt_of_cell? _ _ e)).trans e⟩
        |5,_,_,hv=>exact hv
        |6,_,hne,hv=>
         obtain⟨b,e1,hce,hob⟩:=hv;refine⟨b,e1,?_,?_⟩
         ·by_cases hj11:j=11
          ·rcases hob with e|⟨A,c,e⟩
           ·rw [e];exact(hr.1 hj11).out.2.2.1
           ·exact absurd e (HNT.out u (hr.1 hj11).out.1 A c)
          ·exact((hr.2 hj11).cell (World.block_lt_of_cell? _ _ hce)).trans hce
         ·by_cases hj11:j=11
          ·rcases hob with e|⟨A,c,e⟩
           ·exact .inl e
           ·exact absurd e (HNT.out u (hr.1 hj11).out.1 A c)
          ·exact hob.imp id fun⟨A,c,e⟩=>⟨A,c,((hr.2 hj11).cell (World.block_lt_of_cell? _ _ e)).trans e⟩
        |7,_,_,hv=>exact hv
        |8,_,_,hv=>exact hv
        |9,_,_,hv=>exact hv
        |10,_,_,hv=>exact hv
        |11,_,_,hv=>exact hv
        |12,_,_,hv=>exact hv
        |i+13,hix,_,_=>omega
       ·intro i hix cph vs u hcx hC hw oq ho
        match i,hix,hcx,hw,ho with
        |0,_,hcx,hw,ho=>
         simp only [zq,zh]at ho;subst ho;refine⟨rfl,?_⟩;have hxr:=hC.out.2.2;clear hw hcx;simp only [xzaa,tmpsTo];go_simp;exact xzab (Below.refl _ _) rfl
        |1,_,hcx,hw,ho=>
         have e0:vs 0=.pointer (some ⟨p.g,0,none⟩):=hw 0 (by omega) (by kernel_rfl);simp only [zq,zh]at ho;subst ho;refine⟨rfl,?_⟩;have hxr:=hC.out.2.2;clear hw hcx;simp only [xzaa,tmpsTo,putT,zr];rw [e0];clear e0;go_simp;exact xzab (Below.refl _ _) rfl
        |2,_,hcx,hw,ho=>
         have e1:vs 1=.pointer (some ⟨p.g,0,none⟩):=hw 1 (by omega) (by kernel_rfl);simp only [zq,zh]at ho;subst ho;refine⟨rfl,?_⟩;have hxr:=hC.out.2.2;clear hw hcx;simp only [xzaa,tmpsTo,putT,zr];rw [e1];clear e1;go_simp;exact xzab (Below.refl _ _) rfl
        |3,_,hcx,hw,ho=>
         have e2:vs 2=.pointer (some ⟨p.g,0,none⟩):=hw 2 (by omega) (by kernel_rfl);simp only [zq,zh]at ho;subst ho;refine⟨rfl,?_⟩;have hxr:=hC.out.2.2;clear hw hcx;simp only [xzaa,tmpsTo,putT,zr];rw [e2];clear e2;go_simp;exact xzab (Below.refl _ _) rfl
        |4,_,hcx,hw,ho=>
         have e3:vs 3=.pointer (some ⟨p.g,257,none⟩):=hw 3 (by omega) (by kernel_rfl);simp only [zq,zh]at ho;subst ho;refine⟨rfl,?_⟩;have hxr:=hC.out.2.2;clear hw;simp only [xzaa,tmpsTo,putT,zr];rw [e3];clear e3;obtain⟨b,m,c,kn,kl,ke,ko⟩:=HLD.out cph u hC;go_simp;exact xzab (Below.refl _ _) ⟨b,m,⟨c,rfl⟩,kl,ke,ko⟩
        |5,_,hcx,hw,ho=>
         simp only [zq,zh]at ho;subst ho;refine⟨rfl,?_⟩;have hxr:=hC.out.2.2;clear hw hcx;simp only [xzaa,tmpsTo,putT,zr];go_simp;exact xzab (Below.refl _ _) rfl
        |6,_,hcx,hw,ho=>
         have e5:vs 5=.int .i64 (at':Nat):=hw 5 (by omega) (by kernel_rfl);simp only [zq,zh]at ho;subst ho;refine⟨rfl,?_⟩;have hxr:=hC.out.2.2;have hw4:=hw 4 (by omega) (by kernel_rfl);clear hw;simp only [xzaa,tmpsTo,putT,zr];rw [e5];clear e5;obtain⟨b,m,c,e4,hlm,hce,hob⟩:∃ b m c,vs 4=.slice (some ⟨b,0,none⟩) m c/\at'<m/\u.cell? ⟨b,at',none⟩=some (.slice (some ⟨bs3 at',0,none⟩) p.C p.C)/\(b=ob\/(∃ A c,u.cell? ⟨p.g,267,none⟩=some (.slice A (r.2.length+1) c))):=hw4;rw [e4]
         have hlm':(at':Int)<(m:Int):=by omega
         clear e4;go_simp;exact xzab (Below.refl _ _) ⟨b,rfl,hce,hob⟩
        |7,_,hcx,hw,ho=>
         simp only [zq,zh]at ho;subst ho;refine⟨rfl,?_⟩;have hxr:=hC.out.2.2;have hw6:=hw 6 (by omega) (by kernel_rfl);clear hw;simp only [xzaa,tmpsTo,putT,zr];obtain⟨b,e6,hce,hob⟩:∃ b,vs 6=.pointer (some ⟨b,at',none⟩)/\u.cell? ⟨b,at',none⟩=some (.slice (some ⟨bs3 at',0,none⟩) p.C p.C)/\(b=ob\/(∃ A c,u.cell? ⟨p.g,267,none⟩=some (.slice A (r.2.length+1) c))):=hw6;rw [e6];clear e6 hob;go_simp;exact xzab (Below.refl _ _) rfl
        |8,_,hcx,hw,ho=>
         simp only [zq,zh]at ho;subst ho;refine⟨rfl,?_⟩;have hxr:=hC.out.2.2;clear hw hcx;simp only [xzaa,tmpsTo,putT,zr];go_simp;exact xzab (Below.refl _ _) rfl
        |9,_,hcx,hw,ho=>
         simp only [zq,zh]at ho;subst ho;refine⟨rfl,?_⟩;have hxr:=hC.out.2.2;clear hw hcx;simp only [xzaa,tmpsTo,putT,zr];go_simp;exact xzab (Below.refl _ _) rfl
        |10,_,hcx,hw,ho=>
         simp only [zq,zh]at ho;subst ho;refine⟨rfl,?_⟩;have hxr:=hC.out.2.2;clear hw;rw [xzdb (v:=.agg (rowA (setOf x))) 127 (.tmp 5) (.pointer (some ⟨b5,0,none⟩)) rfl (by rw [xzaa];kernel_rfl) (loadRw hxr)];exact xzab ⟨fun h=>absurd h (by decide),fun _=>Below.refl _ _⟩ rfl
        |11,_,hcx,hw,ho=>
         have e9:vs 9=.pointer (some ⟨p.g,0,none⟩):=hw 9 (by omega) (by kernel_rfl);have e10:vs 10=.agg (rowA (setOf x)):=hw 10 (by omega) (by kernel_rfl);simp only [zq,zh]at ho;subst ho;refine⟨rfl,?_⟩;have hxr:=hC.out.2.2;clear hw;simp only [xzaa,tmpsTo,putT,zr];rw [e9,e10];clear e9 e10;have hbel:=hC.out.1 (hcx rfl);go_simp;refine xzak ?_
         go_at_call 89
         refine(HNO.out u hbel).mono ?_;rintro e u' ⟨rfl,hnr⟩;exact⟨_,rfl,zd ⟨hbel,hnr⟩,rfl⟩
        |12,_,hcx,hw,ho=>
         have e7:vs 7=.slice (some ⟨bs3 at',0,none⟩) p.C p.C:=hw 7 (by omega) (by kernel_rfl);have e8:vs 8=.int .i64 (k:Nat):=hw 8 (by omega) (by kernel_rfl);simp only [zq,zh]at ho;subst ho;refine⟨rfl,?_⟩;have hxr:=hC.out.2.2;clear hw hcx;simp only [xzaa,tmpsTo,putT,zr];rw [e7,e8];clear e7 e8;go_simp;exact xzab (Below.refl _ _) rfl
        |i+13,hix,_,_,_=>omega
       intro vs2 u3 hC3 hV3;have e11:vs2 11=.int .i64 (r.2.length:Nat):=hV3 11 (by omega);have e12:vs2 12=.pointer (some ⟨bs3 at',k,none⟩):=hV3 12 (by omega);clear hV3;simp only [xzaa,tmpsTo,putT,zr,List.drop_succ_cons,List.drop_zero];rw [e11,e12];generalize vs2 0=t0;generalize vs2 1=t1;generalize vs2 2=t2;generalize vs2 3=t3;generalize vs2 4=t4;generalize vs2 5=t5;generalize vs2 6=t6;generalize vs2 7=t7;generalize vs2 8=t8;generalize vs2 9=t9;generalize vs2 10=t10;obtain⟨ρ6,V6,bs6,g1,g2,g3⟩:=hC3.out.2.1 rfl
       have eD:(growD p ⟨r.2,r.2,nowRows p.C at' k R r,tagsL p.N r.2,D.fol,D.tak⟩ x)=⟨r.2++[x],r.2++[x],nowRows p.C at' k R (r.1,r.2++[x]),tagsL p.N (r.2++[x]),D.fol,D.tak⟩:=by
        unfold growD;rw [<-xznr p.C at' k R r x HSM3.out.2.2.1,xzzw p.N r.2 x (by have:=HSM3.out.2.2.1;omega)];rfl
       rw [eD]at g1
       have hll:(r.2++[x]).length=r.2.length+1:=by simp
       have hnl2:(nowRows p.C at' k R (r.1,r.2++[x])).length=r.2.length+1:=by rw [xzfj p.C at' k R (r.1,r.2++[x]) hR (by show at'<(r.2++[x]).length;have:=HSM3.out.2.2.1;omega)];exact hll
       have hlx:at'<(nowRows p.C at' k R (r.1,r.2++[x])).length:=by rw [hnl2];have:=HSM3.out.2.2.1;omega
       have hb13:=g1.rw at' hlx F;have hat13:(nowRows p.C at' k R (r.1,r.2++[x]))[at']=r.1++List.replicate (p.C - k) (-1):=xzlx p.C at' k R (r.1,r.2++[x]) hR hlx
       have hb13':BlkF u3 (bs3 at') 3 p.C (intF (r.1++List.replicate (p.C - k) (-1))):=by rw [<-hat13,<-g3];exact hb13
       have hcb:=hb13'.cell hq;have hfz13:=BlkIs.frozen hb13' k;have hput:=xzus r.1 k p.C (r.2.length:Nat) hq HSM3.out.2.2.2.1 (hb13'.put k (.int .i64 (r.2.length:Nat)))
       have hs14:=(g1.tn (r':=fun q=>q=8+at') (fun _ h=>h.elim) (Tn.wrote (Wrote.cell u3 (bs3 at') k (.int .i64 (r.2.length:Nat)))) (fun q e=>by
        obtain rfl:bs3 at'=q:=Option.some.inj e;rw [<-g3]
        exact⟨g1.rlow at' hlx,.inl (g1.rr at' hlx)⟩)).newRow (l:=r.1++((r.2.length:Nat):Int)::List.replicate (p.C - (k+1)) (-1)) hlx (by rw [g3];exact hput)
       have e14:rowTo p.N lb at' L (k+1)=(r.1++[((r.2.length:Nat):Int)],r.2++[x]):=by rw [HSU.out];simp only [oneX,if_neg hxe,hf]
       have HSMN:=zd (show ∃ ρ V bs,SM p ρ ⟨(rowTo p.N lb at' L (k+1)).2,(rowTo p.N lb at' L (k+1)).2,nowRows p.C at' (k+1) R (rowTo p.N lb at' L (k+1)),tagsL p.N (rowTo p.N lb at' L (k+1)).2,D.fol,D.tak⟩ V bs (u3.setCell ⟨bs3 at',k,none⟩ (.int .i64 (r.2.length:Nat)))/\V.reach=reachOf p.N L at' from by
        rw [e14];refine⟨ρ6,V6,bs6,?_,g2⟩;have:=hs14;rw [show(⟨r.2++[x],r.2++[x],nowRows p.C at' k R (r.1,r.2++[x]),tagsL p.N (r.2++[x]),D.fol,D.tak⟩:SD).nxt.set at' (r.1++((r.2.length:Nat):Int)::List.replicate (p.C - (k+1)) (-1))=nowRows p.C at' (k+1) R (r.1++[((r.2.length:Nat):Int)],r.2++[x])from xzjf p.C at' k R (r.1,r.2++[x]) _ hR]at this
        exact this)
       obtain⟨A14,c14,es14,_⟩:=(hs14.st F).form
       have es15:V6.sts=.slice A14 (r.2.length+1) c14:=by rw [es14];simp
       have k267:=hs14.cells.2.2.2.2.2.2.2.2.2.2.2.1;rw [es15]at k267;have hbel:=hs14.below;have HLEN:=zd (show(rowTo p.N lb at' L (k+1)).2.length=r.2.length+1 by rw [e14];simp);clear g1 hb13 hb13' hput hs14 es14 es15 eD hlx hnl2 hat13 e14
       by_cases h6:r.2.length+1<=600
       ·have hd600:decide (((r.2.length:Int)+1)>600)=false:=by simp;omega
        have hd601:decide ((600:Int)<((r.2.length:Int)+1))=false:=by simp;omega
        have HN:=zd (show(rowTo p.N lb at' L (k+1)).2.length<=600/\∃ ρ V bs,SM p ρ ⟨(rowTo p.N lb at' L (k+1)).2,(rowTo p.N lb at' L (k+1)).2,nowRows p.C at' (k+1) R (rowTo p.N lb at' L (k+1)),tagsL p.N (rowTo p.N lb at' L (k+1)).2,D.fol,D.tak⟩ V bs (u3.setCell ⟨bs3 at',k,none⟩ (.int .i64 (r.2.length:Nat)))/\V.reach=reachOf p.N L at' from⟨by rw [HLEN.out];exact h6,HSMN.out⟩);clear hbel;go_wp2;exact⟨⟨k+1,rfl,by omega,HN⟩,by simp [intOf];omega⟩
       ·have hd600:decide (((r.2.length:Int)+1)>600)=true:=by simp;omega
        have hd601:decide ((600:Int)<((r.2.length:Int)+1))=true:=by simp;omega
        have hd602:decide (((r.2.length:Int)+1)<=600)=false:=by simp;omega
        have HZ:=zd (show subZ p.N lb p.C=none from xzyq p.N lb p.C (at'+1) (by
         simp only [subTo,HSUB.out]
         rw [if_pos hp,if_pos (by have:=HGE.out;have:=HLEN.out;omega)]))
        have HBL:=zd hbel;clear hbel;go_wp2
        try rw [Exit.noGoto_ret]
        go_ret;exact⟨fun L' R' e=>(by rw [HZ.out]at e;cases e),fun _=>⟨rfl,HBL.out⟩⟩
    ·have hdq:decide ((k:Int)<(p.C:Int))=false:=by simp;omega
     obtain rfl:k=p.C:=by omega
     obtain⟨hk6,ρ4,V4,bs4,hs4,_⟩:=HK.out;rw [xznp]at hs4
     have HN:=zd (show ∃ L' R' ρ V bs,subTo p.N lb p.C (at'+1)=some (L',R')/\R'.length=at'+1/\at'+1<=L'.length/\SM p ρ ⟨L',L',R'++List.replicate (L'.length - (at'+1)) (noRow p.C),tagsL p.N L',D.fol,D.tak⟩ V bs wr from⟨_,_,_,_,_,by
      simp only [subTo,HSUB.out]
      rw [if_pos hp,if_neg (by omega)],by simp [hR],by obtain⟨l,e⟩:=xzet p.N lb at' L p.C;rw [e];simp;omega,hs4⟩)
     clear hs4;go_wp2;exact⟨⟨at'+1,rfl,by omega,HN⟩,by simp [intOf];omega⟩
  ·have hdl:decide ((at':Int)<(L.length:Int))=false:=by simp;omega
   have hdm:decide ((L.length:Int)<=600)=true:=by simp;omega
   obtain rfl:at'=L.length:=by omega
   have hz:=xzgl p.N lb p.C L.length HSUB.out (Nat.le_refl _);have hsm':=HSM.out;rw [Nat.sub_self,List.replicate_zero,List.append_nil]at hsm';have HE:=zd (And.intro hz hsm');clear hz hsm' hsm;go_wp2;go_ret
   exact⟨fun L' R' e=>by
    rw [HE.out.1]at e
    cases e
    exact⟨rfl,_,_,_,HE.out.2⟩,fun e=>by rw [HE.out.1]at e;cases e⟩
end Go.Proofs.YtdjpphjpnkfeiaaGreatDoor
