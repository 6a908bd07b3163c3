/-
 WHAT THE WALKER OF PACKAGE rx TELLS: each node of a tree, ahead of its Subs, from the left: the iterator's contract, for every loop body that keeps the iterator's rows. Condition: the tree is at most 2^40 deep.
-/
import Derived.RangeFuncNested
import Derived.RangeFuncBound
import Derived.RangeFuncCalls
import Derived.RangeFuncLeaves
import Derived.Shelf.Abstract
import Derived.Shelf.RegionOpen
import Derived.WalkKit
import Derived.OwnWalkIn
import Derived.TacticsInMore
import Derived.LoopNIn
import Derived.LoopIn
import Derived.RangeFuncBox
import Derived.Maps.AppendAt
import Derived.Deep.RegionHeld3
import Derived.BigQuiet
import Derived.Test.YtdjpphjpnkfeiaaGreatDoorQG03
import Derived.Test.YtdjpphjpnkfeiaaGreatDoorQG14
import Derived.Test.YtdjpphjpnkfeiaaGreatDoorQG02
namespace Go.Proofs.YtdjpphjpnkfeiaaGreatDoor
section
open Go.RowKit
theorem xznt {p:Nat->Prop}(h:∃ n,p n):∃ n,p n/\∀ k,p k->n<=k:=by
 obtain⟨n,hn⟩:=h
 induction n using Nat.strongRecOn with
 |_ n ih=>
  by_cases hk:∃ k,p k/\k<n
  ·obtain⟨k,h1,h2⟩:=hk
   exact ih k h2 h1
  ·refine⟨n,hn,fun k h1=>?_⟩
   rcases Nat.lt_or_ge k n with h2|h2
   ·exact absurd ⟨k,h1,h2⟩ hk
   ·exact h2
open Classical in
noncomputable def least (p:Nat->Prop):Nat:=if h:∃ n,p n then(xznt h).choose else 0
theorem xzuv {p:Nat->Prop}(h:∃ n,p n):p (least p):=by
 unfold least;rw [dif_pos h];exact(xznt h).choose_spec.1
theorem xzuw {p:Nat->Prop}{n:Nat}(h:p n):least p<=n:=by
 unfold least;rw [dif_pos ⟨n,h⟩];exact(xznt ⟨n,h⟩).choose_spec.2 n h
abbrev Row:=List Tree×Nat×Nat
def RowV (r:Row)(v:Value):Prop:=∃ A c,v=.slice A r.1.length c/\r.1.length<=c/\c<=9223372036854775807/\(r.1≠[]->A=some ⟨r.2.1,r.2.2,none⟩)
def RowsV:List Row->List Value->Prop
 |[],[]=>True
 |r::st,v::vs=>RowV r v/\RowsV st vs
 |_,_=>False
theorem RowsV.len:∀ {st:List Row} {vs:List Value},RowsV st vs->vs.length=st.length
 |[],[],_=>rfl
 |_::_,_::_,h=>by simp [RowsV.len h.2]
 |[],_::_,h=>h.elim
 |_::_,[],h=>h.elim
mutual
def Tree.deepN:Tree->Nat
 | .node _ _ l _ _=>deepL l+1
def deepL:List Tree->Nat
 |[]=>0
 |t::r=>max t.deepN (deepL r)
end
def fitS (D:Nat):List Row->Prop
 |[]=>True
 |r::st=>st.length<=D/\st.length+deepL r.1<=D/\fitS D st
def leftS:List Row->Nat
 |[]=>0
 |r::st=>nodesL r.1+nodesL r.1+1+leftS st
theorem yzae (t:Tree)(l:List Tree)(b o b' o' o2:Nat)(st:List Row):leftS ((t.sub,b',o')::(l,b,o2)::st)<leftS ((t::l,b,o)::st):=by
 cases t with
 |node k m s lo hi=>
  simp only [leftS,nodesL,Tree.nodes,Tree.sub];omega
theorem yzeo {D:Nat}{t:Tree}{l:List Tree}{b o b' o' o2:Nat}{st:List Row}(h:fitS D ((t::l,b,o)::st)):fitS D ((t.sub,b',o')::(l,b,o2)::st):=by
 cases t with
 |node k m s lo hi=>
  simp only [fitS,deepL,Tree.deepN,Tree.sub,List.length_cons]at h ⊢;obtain⟨h1,h2,h3⟩:=h;exact⟨by omega,by omega,by omega,by omega,h3⟩
structure Mine (B:Nat)(W W':World):Prop where
 os:W'.os=W.os
 tape:W'.tape=W.tape
 output:W'.output=W.output
 size:W.heap.size<=W'.heap.size
 same:∀ (k:Nat) (o:Obj),W.heap[k]? =some o->(k<B\/ ∀ cs f,o≠ .cells cs 53 f)->W'.heap[k]? =some o
theorem Mine.others {B:Nat}{W W':World}(h:Mine B W W'):KeepsOthers W W':=⟨h.size,fun k o hk ho=>h.same k o hk (.inr fun cs f e=>by subst e;cases ho)⟩
theorem Mine.of_grown {B:Nat}{W W':World}{row:Option Nat}(hg:W.grownBy W' row)(hr:∀ r,row=some r->B<=r/\∃ cs f,W.heap[r]? =some (.cells cs 53 f)):Mine B W W':=
 ⟨hg.os,hg.tape,hg.output,hg.size,fun k o hk ho=>(hg.block k (Array.getElem?_eq_some_iff.1 hk).1 (fun e=>by
  obtain⟨h1,cs,f,h2⟩:=hr k e.symm;rw [hk]at h2
  cases h2
  rcases ho with h|h
  ·omega
  ·exact h cs f rfl)).trans hk⟩
theorem Mine.trans {B:Nat}{W W' W'':World}(h:Mine B W W')(k:Mine B W' W''):Mine B W W'':=
 ⟨k.os.trans h.os,k.tape.trans h.tape,k.output.trans h.output,Nat.le_trans h.size k.size,fun i o hi ho=>k.same i o (h.same i o hi ho) ho⟩
theorem Mine.alloc (B:Nat)(W:World)(o:Obj):Mine B W (W.alloc o):=.of_grown (World.grownBy_alloc W o none) (by simp)
theorem yzcm {W:World}{B:Nat}{v:Value}{n:Nat}{xs:List Value}(h:W.ownsRow B 53 1 v n xs):∀ r,v.ownBlock=some r->B<=r/\∃ cs f,W.heap[r]? =some (.cells cs 53 f):=fun r e=>by
 rcases h.2 with⟨rfl,_⟩|⟨g,cap,cur,rfl,hb,hg,_⟩
 ·simp [Value.ownBlock]at e
 ·obtain rfl:g=r:=by simpa [Value.ownBlock]using e
  exact⟨hb,_,_,hg⟩
def KeepsRows (W W':World):Prop:=W.heap.size<=W'.heap.size/\∀ (k:Nat) (cs:Array Value),W.heap[k]? =some (.cells cs 53 (0,0))->W'.heap[k]? =some (.cells cs 53 (0,0))
theorem KeepsRows.trans {A B C:World}(h:KeepsRows A B)(k:KeepsRows B C):KeepsRows A C:=⟨Nat.le_trans h.1 k.1,fun i cs hi=>k.2 i cs (h.2 i cs hi)⟩
theorem KeepsRows.put (W:World)(l:Nat)(o o':Obj)(hl:W.heap[l]? =some o)(ho:o.isCells=false):KeepsRows W (W.putObj l o'):=
 ⟨by simp,fun k cs hk=>(World.putObj_heap_other (fun e=>by subst e;rw [hk]at hl;cases hl;cases ho)).trans hk⟩
theorem KeepsRows.own {W W':World}(h:KeepsRows W W'){B:Nat}{v:Value}{n:Nat}{xs:List Value}(hr:W.ownsRow B 53 1 v n xs):W'.ownsRow B 53 1 v n xs:=by
 rcases hr with⟨h1,h2|⟨g,cap,cur,rfl,hb,hg,h3⟩⟩
 ·exact⟨h1,.inl h2⟩
 ·exact⟨h1,.inr ⟨g,cap,cur,rfl,hb,h.2 g cur hg,h3⟩⟩
theorem own_pop {W:World}{B g n c:Nat}{xs:List Value}{x:Value}(h:W.ownsRow B 53 1 (.slice (some ⟨g,0,none⟩) (n+1) c) (n+1) (xs++[x])):W.ownsRow B 53 1 (.slice (some ⟨g,0,none⟩) n c) n xs:=by
 obtain⟨h1,h2⟩:=h
 have hx:xs.length=n:=by simp at h1;omega
 refine⟨by omega,?_⟩
 rcases h2 with⟨h,_⟩|⟨g',c',cur,hv,hb,hg,hn,hm,hc,ht⟩
 ·simp at h
 ·injection hv with e1 e2 e3
  injection e1 with e1
  injection e1 with e1
  subst e1 e3;refine .inr ⟨g,c,cur,rfl,hb,hg,by omega,hm,hc,?_⟩;have:=congrArg (List.take n) ht;rw [List.take_take,Nat.mul_one,Nat.min_eq_left (by omega),<-hx,List.take_left]at this;rw [Nat.mul_one,<-hx];exact this
def Told (J:List Row->World->Prop)(t:Tree)(l:List Tree)(b o:Nat)(st:List Row)(W:World):Prop:=
 ∃ A c b' o',W.cell? ⟨b,o+5,none⟩=some (.slice A t.sub.length c)/\t.sub.length<=c/\c<=9223372036854775807/\(t.sub≠[]->A=some ⟨b',o',none⟩)/\J ((t.sub,b',o')::(l,b,o+8)::st) W
attribute [local go_sem] Oper.semAt_some
theorem yzaf:(Tryz.prog.info? 53).map (fun i=>(i.zero,i.size,i.bytes))=some (some (.slice none 0 0),1,24):=by kernel_rfl
def NInv (B D:Nat)(J:List Row->World->Prop)(G:World->Prop)(v:Value)(wr:World)(m:Nat):Prop:=
 ∃ g cp st vs,v=.slice (some ⟨g,0,none⟩) st.length cp/\leftS st=m/\RowsV st vs/\fitS D st/\wr.ownsRow B 53 1 v st.length vs.reverse/\J st wr/\G wr/\st.length<=cp/\cp<=maxLen/\B<=wr.heap.size
set_option maxRecDepth 100000 in
set_option maxHeartbeats 2000000 in
theorem yzep (n:Nat)(hn:1<=n)(l D:Nat)(hD:D<=1099511627776)(J:List Row->World->Prop)(G X:World->Prop)(W:World)
 (hJ:∀ st A B,J st A->Mine W.heap.size A B->J st B)(hG:∀ A B,G A->KeepsOthers A B->G B)(hpop:∀ b o st A,J (([],b,o)::st) A->J st A)
 (hY:∀ t s b o st A,J ((t::s,b,o)::st) A->G A->st.length<=1099511627776->YieldAt Fence.wide (n - 1) Tryz.prog l #[.pointer (some ⟨b,o,none⟩),.int .i64 ((st.length:Int)+1)] A fun e B=>
  (e=.returned (.bool true)/\Told J t s b o st B/\KeepsRows A B/\G B)\/(e=.returned (.bool false)/\X B))
 (ts:List Tree)(b o:Nat)(v:Value)(hv:RowV (ts,b,o) v)(hd:deepL ts<=D)(h0:J [(ts,b,o)] W)(g0:G W):
 CallsIn Fence.wide n Tryz.prog 93 #[v,.func (.yield l) #[] #[]] W fun e W'=>(∃ v,e=.returned v)/\((J [] W'/\G W')\/X W'):=by
 obtain⟨i0,hi,hz0,hz1,hz2⟩:=info_parts yzaf;have HY:=zd hY;have HJ:=zd hJ;have HG:=zd hG;have HP:=zd hpop;have H0:=zd (And.intro h0 g0);have HI0:=zd hi;obtain⟨A,c,rfl,hc1,hc2,hA⟩:=hv;have HV:=zd (show RowV (ts,b,o) (.slice A ts.length c)from⟨A,c,rfl,hc1,hc2,hA⟩);clear hY hJ hG hpop h0 g0 hA;refine callsIn_of_wp Tryz.func93 rfl trivial ?_ rfl;simp only [Tryz.ntmps93,List.size_toArray,List.length_cons,List.length_nil,Nat.reduceAdd,Nat.reduceSub,Array.replicate_succ,Array.replicate_zero,List.push_toArray,List.append_toArray,List.nil_append,List.cons_append]
 gi_wp2
 gi_loopw [4] (fun v wr=>∃ m,NInv W.heap.size D J G v wr m) (fun v wr=>least (NInv W.heap.size D J G v wr))
 case atStart=>
  refine⟨_,W.heap.size,1,[(ts,b,o)],[.slice A ts.length c],rfl,rfl,⟨HV.out,trivial⟩,⟨Nat.zero_le _,by simpa using hd,trivial⟩,?_,HJ.out _ _ _ H0.out.1 (Mine.alloc _ _ _),HG.out _ _ H0.out.2 (KeepsOthers.alloc _ _),Nat.le_refl _,by unfold maxLen;omega,by simp⟩;exact World.ownsRow_lit W #[.slice A ts.length c] 1 (Nat.le_refl _) (by unfold maxLen;omega) rfl
 case round=>
  obtain⟨g,cp,st,vs,rfl,hm,hrows,hfit,hown,hj,hg,hcp1,hcp2,hsz⟩:=xzuv hrel;have HM:=zd hm;clear hm hrel
  cases st with
  |nil=>
   clear hrows hown
   gi_wp2
   go_end0
   exact⟨⟨_,rfl⟩,.inl ⟨hj,hg⟩⟩
  |cons r st=>
   cases vs with
   |nil=>exact hrows.elim
   |cons x vs=>
    obtain⟨s,b,o⟩:=r;obtain⟨⟨A,c,rfl,hsc,hcm,hA⟩,hrs⟩:=hrows;have hvl:=hrs.len;have hk40:st.length<=1099511627776:=Nat.le_trans hfit.1 hD;simp only [List.length_cons,List.reverse_cons]at*;have hcell:=hown.cellAt st.length (by omega);rw [List.getElem?_append_right (by simp;omega),List.length_reverse,hvl,Nat.sub_self]at hcell;simp only [List.getElem?_cons_zero]at hcell;have hfr:=hown.frozenAt st.length;have d1:decide (((st.length+1:Nat):Int)>0)=true:=decide_eq_true (by omega)
    have w1:IntKind.i64.wrap (((st.length+1:Nat):Int) - 1)=((st.length:Nat):Int):=by rw [IntKind.wrap_i64];omega
    have w2:(((st.length:Nat):Int)).toNat=st.length:=by omega
    have hlt:st.length<st.length+1:=by omega
    have hlt2:st.length<=cp:=by omega
    have HR:=zd (And.intro hrs (And.intro hfit hown));have HK:=zd (And.intro hj hg);have HA:=zd hA;clear hrs hfit hown hj hg hA;generalize hk:st.length=k at*
    cases s with
    |nil=>
     simp only [List.length_nil]at*
     gi_wp2
     have hlt:leftS st<least (NInv W.heap.size D J G (.slice (some ⟨g,0,none⟩) (k+1) cp) wr):=by
      rw [<-HM.out];simp only [leftS];omega
     have hinv:NInv W.heap.size D J G (.slice (some ⟨g,0,none⟩) k cp) wr (leftS st):=
      ⟨g,cp,st,vs,by rw [hk],rfl,HR.out.1,HR.out.2.1.2.2,by rw [hk];exact own_pop HR.out.2.2,HP.out _ _ _ _ HK.out.1,HK.out.2,by omega,hcp2,hsz⟩
     exact⟨⟨_,hinv⟩,Nat.lt_of_le_of_lt (xzuw hinv) hlt⟩
    |cons t s=>
     obtain rfl:=HA.out (by simp)
     have d2:(((s.length+1:Nat):Int)==0)=false:=by simp;omega
     have hmine:∀ x,Mine W.heap.size wr (wr.setCell ⟨g,k,none⟩ x):=fun x=>Mine.of_grown (HR.out.2.2.stored k x).2 (yzcm HR.out.2.2)
     have hset:∀ x,((vs.reverse++[Value.slice (some ⟨b,o,none⟩) (s.length+1) c]).set k x)=vs.reverse++[x]:=fun x=>by
      rw [List.set_append_right _ _ (by simp;omega)]
      simp [hvl]
     have step:∀ x,RowV (s,b,o+8) x->∃ fn tmps assign body,(Instr.yield l #[.pointer (some ⟨b,o,none⟩),.int .i64 ((k:Int)+1)]).run Tryz.prog (wr.setCell ⟨g,k,none⟩ x)=.ok (.round l fn tmps assign body) (wr.setCell ⟨g,k,none⟩ x)/\
      RoundIn Fence.wide (n - 1) Tryz.prog l fn tmps assign body (wr.setCell ⟨g,k,none⟩ x) fun e B=>(e=.returned (.bool true)/\Told J t s b o st B/\(∀ m,m=wr.setCell ⟨g,k,none⟩ x->KeepsRows m B)/\G B)\/(e=.returned (.bool false)/\X B):=fun x hx=>by
      have:=HY.out t s b o st _ (HJ.out _ _ _ HK.out.1 (hmine x)) (HG.out _ _ HK.out.2 (hmine x).others) (by omega);rw [hk]at this;obtain⟨fn,tmps,assign,body,h1,h2⟩:=this;exact⟨fn,tmps,assign,body,h1,h2.mono fun e B h=>h.imp (fun h=>⟨h.1,h.2.1,fun m e=>e▸h.2.2.1,h.2.2.2⟩) id⟩
     have hstep:=zd step;simp only [List.length_cons]at*;clear step
     obtain⟨x',hx',hrow⟩:∃ x',RowV (s,b,o+8) x'/\((c=1/\x'=.slice (some ⟨b,o,none⟩) s.length 0)\/(c≠1/\x'=.slice (some ⟨b,o+8,none⟩) s.length (c - 1))):=by
      by_cases hcc:c=1
      ·exact⟨_,⟨_,_,rfl,(by show s.length<=0;omega),by omega,fun h=>absurd (List.eq_nil_of_length_eq_zero (l:=s) (by omega)) h⟩,.inl ⟨hcc,rfl⟩⟩
      ·exact⟨_,⟨_,_,rfl,(by show s.length<=c - 1;omega),by omega,fun _=>rfl⟩,.inr ⟨hcc,rfl⟩⟩
     obtain⟨fn,tmps,assign,body,hy2,hR⟩:=hstep.out x' hx';have hown2:=(HR.out.2.2.stored k x').1;rw [hset x']at hown2;have HX:=zd (And.intro hx' hown2);have HRR:=zd hR;clear hx' hown2 hR hmine hset hstep
     rcases hrow with⟨hcc,rfl⟩|⟨hcc,rfl⟩
     all_goals
      gi_wp2
      refine HRR.out.mono ?_;rintro e W3 (⟨rfl,⟨A',c',b',o',hsub,hs1,hs2,hs3,hj3⟩,hkeep,hg3⟩|⟨rfl,hx3⟩)
      ·have hkp:=hkeep _ rfl
       have hown3:=hkp.own HX.out.2;have hsz3:W.heap.size<=W3.heap.size:=Nat.le_trans (by simpa using hsz) hkp.1;have hmt:=yzcm (hown3.alloc (.cells #[.slice A' t.sub.length c'] 53));have H3:=zd (And.intro hj3 (And.intro hg3 (And.intro hs3 hown3)));have HMT:=zd hmt;clear hkeep hkp hj3 hg3 hs3 hmt hown3 hy2 hcell
       gi_wp2_with (gi_at_builtin;refine wpListIn_append_own _ rfl _ _ 194 rfl W.heap.size 53 i0 (.slice none 0 0) 1 24 Tryz.underlying194 hi hz0 hz1 hz2 rfl (by decide) _ _ _ rfl (H3.out.2.2.2.alloc _) ⟨W3.heap.size,0,none⟩ 1 1 [.slice A' t.sub.length c'] rfl rfl (cell_one_new _ _ _) (by simp [Value.oneCell']) (by unfold maxLen;omega) (by omega) (by simp;omega) ?_;intro v' w4 hown' hgrow _;obtain⟨g',cap',rfl⟩:=ownsRow_succ hown')
       have hm4:Mine W.heap.size W3 w4:=(Mine.alloc _ _ _).trans (Mine.of_grown hgrow HMT.out)
       have hcp:k+1+1<=cap'/\cap'<=maxLen:=by
        rcases hown'.2 with⟨h,_⟩|⟨_,_,_,h,_,_,h4,h5,_⟩
        ·cases h
        ·injection h with _ _ e
         subst e;exact⟨h4,h5⟩
       have hlt4:leftS ((t.sub,b',o')::(s,b,o+8)::st)<least (NInv W.heap.size D J G (.slice (some ⟨g,0,none⟩) (k+1) cp) wr):=by
        rw [<-HM.out];exact yzae t s b o b' o' (o+8) st
       have hinv:NInv W.heap.size D J G (.slice (some ⟨g',0,none⟩) (k+1+1) cap') w4 (leftS ((t.sub,b',o')::(s,b,o+8)::st)):=by
        refine⟨g',cap',(t.sub,b',o')::(s,b,o+8)::st,_::_::vs,by simp [hk],rfl,⟨⟨A',c',rfl,hs1,hs2,H3.out.2.2.1⟩,HX.out.1,HR.out.1⟩,yzeo HR.out.2.1,?_,HJ.out _ _ _ H3.out.1 hm4,HG.out _ _ H3.out.2.1 hm4.others,by simp [hk];omega,hcp.2,Nat.le_trans hsz3 hm4.size⟩;simp only [List.reverse_cons,List.length_cons,hk];exact hown'
       exact⟨⟨_,hinv⟩,Nat.lt_of_le_of_lt (xzuw hinv) hlt4⟩
      ·gi_wp2
       refine bodyPost_ret (results_none rfl _ _ _) rfl ?_;exact⟨⟨_,rfl⟩,.inr hx3⟩
end
section
open Go.RowKit
structure Loose (B:Nat)(W W':World):Prop where
 os:W'.os=W.os
 tape:W'.tape=W.tape
 output:W'.output=W.output
 size:W.heap.size<=W'.heap.size
 low:∀ k,k<B->k<W.heap.size->W'.heap[k]? =W.heap[k]?
 same:∀ (k:Nat) (cs:Array Value) (e:TypeId) (f:Nat×Nat),W.heap[k]? =some (.cells cs e f)->e≠53->W'.heap[k]? =some (.cells cs e f)
theorem Mine.loose {B B':Nat}{W W':World}(h:Mine B W W')(hB:B'<=B):Loose B' W W':=
 ⟨h.os,h.tape,h.output,h.size,fun k hk hs=>by
  obtain⟨o,ho⟩:∃ o,W.heap[k]? =some o:=⟨_,Array.getElem?_eq_getElem hs⟩;rw [ho]
  exact h.same k o ho (.inl (by omega)),fun k _ _ _ hk he=>h.same k _ hk (.inr fun cs' f' e'=>he (by cases e';rfl))⟩
theorem xzgm {B:Nat}{W:World}{l:Nat}{o:Obj}(o':Obj)(hB:B<=l)(hl:W.heap[l]? =some o)(ho:o.isCells=false):Loose B W (W.putObj l o'):=
 ⟨rfl,rfl,rfl,by simp,fun k hk _=>World.putObj_heap_other (by omega),fun k _ _ _ hk _=>(World.putObj_heap_other (fun e'=>by subst e';rw [hk]at hl;cases hl;cases ho)).trans hk⟩
theorem xzjg {W W':World}(h:Below W.heap.size W W'):Loose W.heap.size W W':=
 ⟨h.os,h.tape,h.output,h.size,fun k hk _=>h.block k hk,fun k _ _ _ hk _=>(h.block k (Array.getElem?_eq_some_iff.1 hk).1).trans hk⟩
theorem Loose.below {n₀ B:Nat}{w W W':World}(h:Below n₀ w W)(hl:Loose B W W')(hn:n₀<=B)(hs:n₀<=W.heap.size):Below n₀ w W':=
 h.trans ⟨hl.os,hl.tape,hl.output,hl.size,fun k hk=>hl.low k (by omega) (by omega)⟩
theorem Loose.blk {B:Nat}{W W':World}(hl:Loose B W W'){g:Nat}{t:TypeId}{cs:Array Value}(h:BlkIs W g t cs)(ht:t≠53):BlkIs W' g t cs:=hl.same g cs t (0,0) h ht
def nodeEnds (J:List Row->World->Prop)(Ix:Code->World->Prop)(t:Tree)(s:List Tree)(b o:Nat)(st:List Row)(W:World):Exit->Act->World->Prop
 | .normal,_,W'=>KeepsOthers W W'/\KeepsRows W W'/\Told J t s b o st W'
 | .ret,_,W'=>KeepsOthers W W'/\Ix .ret W'
 |_,_,_=>False
abbrev NodeSt:=Tree×List Tree×Nat×Nat×List Row
theorem xzrj {g:Operand}{p1 p2:Tmp}{assign body:Code}{Q:Exit->Act->World->Prop}{a:Act}{w:World}(n:Nat)(hn:2<=n)(D:Nat)(hD:D<=1099511627776)
 (v:Value)(hg:a.eval g=.func (.func 93) #[v] #[])(J:List Row->World->Prop)(Ix:Code->World->Prop)
 (hJ:∀ st A A',J st A->Loose w.heap.size A A'->J st A')(hIx:∀ c A A',Ix c A->Loose w.heap.size A A'->Ix c A')(hpop:∀ b o st A,J (([],b,o)::st) A->J st A)
 (ts:List Tree)(b o:Nat)(hv:RowV (ts,b,o) v)(hd:deepL ts<=D)(h0:J [(ts,b,o)] w)(a₁:Nat->Nat->Nat->Act)
 (hassign:∀ (l b o d:Nat) (W:World) (K:Act->World->Prop),K (a₁ b o d) W->
  assign.wpIn (Fence.wide.inRound l) (n - 1 - 1) Tryz.prog (Exit.then K (fun _ _ _=>False)) {tmps:=(a.tmps.setIfInBounds p1 (.pointer (some ⟨b,o,none⟩))).setIfInBounds p2 (.int .i64 ((d:Int)+1)),defers:=[]} W)
 (hbody:∀ (l:Nat) (t:Tree) (s:List Tree) (b o:Nat) (st:List Row) (W:World),w.heap.size<=W.heap.size->st.length<=1099511627776->J ((t::s,b,o)::st) W->
  body.wpIn (Fence.wide.inRound l) (n - 1 - 1) Tryz.prog (nodeEnds J Ix t s b o st W) (a₁ b o st.length) W)
 (hdone:∀ (d:Nat) (W:World),w.heap.size<=d->J [] W->W.heap[d]? =some (.deferred (some []))->Q .normal {a with defers:={target:=.collected d,args:=#[]}::a.defers} W)
 (hstop:∀ (d:Nat) (W:World),w.heap.size<=d->Ix .ret W->W.heap[d]? =some (.deferred (some []))->Code.ret.wpIn Fence.wide n Tryz.prog Q {a with defers:={target:=.collected d,args:=#[]}::a.defers} W):
 (Code.rangeFunc g #[p1,p2] assign body).wpIn Fence.wide n Tryz.prog Q a w:=by
 refine yzad (σ:=NodeSt) rfl (by omega) hg trivial (enters_of Tryz.func93 (by kernel_rfl) rfl)
  (fun s=>#[.pointer (some ⟨s.2.2.1,s.2.2.2.1,none⟩),.int .i64 ((s.2.2.2.2.length:Int)+1)]) (fun _=>rfl) KeepsRows KeepsRows.trans (fun W l o o' _ hl ho=>KeepsRows.put W l o o' hl ho)
  (fun s W=>J ((s.1::s.2.1,s.2.2.1,s.2.2.2.1)::s.2.2.2.2) W/\s.2.2.2.2.length<=1099511627776) (fun s W=>Told J s.1 s.2.1 s.2.2.1 s.2.2.2.1 s.2.2.2.2 W) (fun c W=>c=.ret/\Ix .ret W) (J [])
  ?_ ?_ ?_ ?_ ?_ (fun s=>a₁ s.2.2.1 s.2.2.2.1 s.2.2.2.2.length) ?_ ?_ ?_ ?_
 ·rintro s W l o o' ⟨h1,h2⟩ hB hl ho
  exact⟨hJ _ _ _ h1 (xzgm o' hB hl ho),h2⟩
 ·rintro s W l o o' ⟨A,c,b',o2,h1,h2,h3,h4,h5⟩ hB hl ho
  have hlo:=xzgm (B:=w.heap.size) o' hB hl ho;refine⟨A,c,b',o2,?_,h2,h3,h4,hJ _ _ _ h5 hlo⟩;rw [World.cell?_of_block (w:=W)]
  ·exact h1
  ·refine World.putObj_heap_other (fun e=>?_)
   dsimp only at e
   rw [World.cell?]at h1
   dsimp only at h1
   rw [e,hl]at h1
   cases o<;>simp_all [Obj.isCells]
 ·rintro c W l o o' ⟨h1,h2⟩ hB hl ho
  exact⟨h1,hIx _ _ _ h2 (xzgm o' hB hl ho)⟩
 ·rintro W l o o' h1 hB hl ho
  exact hJ _ _ _ h1 (xzgm o' hB hl ho)
 ·intro l G X hG hY W hb hk hg
  exact yzep (n - 1) (by omega) l D hD J G X W (fun st A B h hm=>hJ st A B h (hm.loose hb.size)) hG hpop
   (fun t s b o st A hj hg hl=>(hY (t,s,b,o,st) A ⟨hj,hl⟩ hg).mono fun e B h=>h) ts b o v hv hd (hJ _ _ _ h0 (xzjg hb)) hg
 ·intro l s W K hK
  have hf:((#[p1,p2]:Array Tmp).zip #[Value.pointer (some ⟨s.2.2.1,s.2.2.2.1,none⟩),Value.int .i64 ((s.2.2.2.2.length:Int)+1)]).foldl (fun t (p,v)=>t.setIfInBounds p v) a.tmps=
   (a.tmps.setIfInBounds p1 (.pointer (some ⟨s.2.2.1,s.2.2.2.1,none⟩))).setIfInBounds p2 (.int .i64 ((s.2.2.2.2.length:Int)+1)):=by simp
  rw [hf];exact hassign l _ _ _ W K hK
 ·rintro l ⟨t,s,b,o,st⟩ W hs ⟨hj,hl⟩
  refine wpIn_mono (hbody l t s b o st W hs hl hj) ?_;intro e a' W' h
  cases e with
  |normal=>exact⟨h.1.from _,h.2.1,h.2.2⟩
  |ret=>exact⟨h.1.from _,rfl,h.2⟩
  |exit id=>exact h.elim
  |goto t=>exact h.elim
  |panic c=>exact h.elim
  |outgrown=>exact h.elim
 ·exact hdone
 ·rintro d c W hd' ⟨rfl,hx⟩ hk
  exact hstop d W hd' hx hk
def RowIn (w0 W:World)(r:Row):Prop:=r.1≠[]->(r.2.1<w0.heap.size\/ ∃ cs:Array Value,W.heap[r.2.1]? =some (.cells cs 55 (0,0)))/\
 ∀ (i:Nat) (h:i<r.1.length),∃ cs:List Value,Tree.At w0 r.1[i] (.agg cs.toArray)/\cs.length=8/\W.rangeAt r.2.1 (r.2.2+i*8) cs
def RowsIn (w0:World)(st:List Row)(W:World):Prop:=Below w0.heap.size w0 W/\∀ r∈st,RowIn w0 W r
def KeepsTrees (w0 W W':World):Prop:=Below w0.heap.size W W'/\∀ (k:Nat) (cs:Array Value),W.heap[k]? =some (.cells cs 55 (0,0))->W'.heap[k]? =some (.cells cs 55 (0,0))
theorem RowIn.keep {w0 W W':World}{r:Row}(h:RowIn w0 W r)(hk:KeepsTrees w0 W W'):RowIn w0 W' r:=fun hne=>by
 obtain⟨h1,h2⟩:=h hne
 have hsame:W'.heap[r.2.1]? =W.heap[r.2.1]? :=by
  rcases h1 with h1|⟨cs,h1⟩
  ·exact hk.1.block _ h1
  ·rw [h1];exact hk.2 _ _ h1
 refine⟨h1.imp id fun⟨cs,h1⟩=>⟨cs,hsame.trans h1⟩,fun i hi=>?_⟩;obtain⟨cs,g1,g2,g3⟩:=h2 i hi;exact⟨cs,g1,g2,fun j v hv=>(World.cell?_of_block (w:=W) hsame).trans (g3 j v hv)⟩
theorem RowsIn.keep {w0 W W':World}{st:List Row}(h:RowsIn w0 st W)(hk:KeepsTrees w0 W W'):RowsIn w0 st W':=
 ⟨h.1.trans hk.1,fun r hr=>(h.2 r hr).keep hk⟩
theorem Loose.trees {w0:World}{B:Nat}{W W':World}(h:Loose B W W')(hB:w0.heap.size<=B)(hW:w0.heap.size<=W.heap.size):KeepsTrees w0 W W':=
 ⟨⟨h.os,h.tape,h.output,h.size,fun k hk=>h.low k (by omega) (by omega)⟩,fun k cs hk=>h.same k cs _ _ hk (by decide)⟩
theorem RowsIn.loose {w0:World}{B:Nat}{st:List Row}{W W':World}(h:RowsIn w0 st W)(hl:Loose B W W')(hB:w0.heap.size<=B):RowsIn w0 st W':=h.keep (hl.trees hB h.1.size)
theorem RowsIn.pop {w0 W:World}{r:Row}{st:List Row}(h:RowsIn w0 (r::st) W):RowsIn w0 st W:=⟨h.1,fun q hq=>h.2 q (by simp [hq])⟩
theorem RowsIn.head {w0 W:World}{t:Tree}{s:List Tree}{b o:Nat}{st:List Row}(h:RowsIn w0 ((t::s,b,o)::st) W):
 ∃ A c,Tree.At w0 t (reV t.kind t.set A t.sub.length c t.lo t.hi)/\t.sub.length<=c/\c<=9223372036854775807/\W.rangeAt b o (reL t.kind t.set A t.sub.length c t.lo t.hi)/\
  ∃ b' o',(t.sub≠[]->A=some ⟨b',o',none⟩)/\RowsIn w0 ((t.sub,b',o')::(s,b,o+8)::st) W:=by
 obtain⟨h1,h2⟩:=h.2 (t::s,b,o) (by simp) (by simp);obtain⟨cs,g1,g2,g3⟩:=h2 0 (by simp);simp only [List.getElem_cons_zero,Nat.zero_mul,Nat.add_zero]at g1 g3
 have hs:RowIn w0 W (s,b,o+8):=fun hne=>by
  refine⟨h1,fun i hi=>?_⟩;obtain⟨cs,k1,k2,k3⟩:=h2 (i+1) (by simpa using hi);exact⟨cs,by simpa using k1,k2,by rw [show o+8+i*8=o+(i+1)*8 by omega];exact k3⟩
 cases t with
 |node k m l lo hi=>
  obtain⟨A,c,he,⟨hc1,hc2⟩,hA⟩:=g1.open
  have hcs:cs=reL k m A l.length c lo hi:=by
   unfold reV at he
   injection he with he
   exact congrArg Array.toList he
  subst hcs;refine⟨A,c,g1,hc1,hc2,g3,?_⟩
  by_cases hl:l=[]
  ·subst hl
   refine⟨0,0,fun h=>absurd rfl h,h.1,fun r hr=>?_⟩;simp only [List.mem_cons]at hr
   rcases hr with rfl|rfl|hr
   ·exact fun hne=>absurd rfl hne
   ·exact hs
   ·exact h.2 r (by simp [hr])
  ·obtain⟨b',o',rfl,hb',hg⟩:=hA hl
   refine⟨b',o',fun _=>rfl,h.1,fun r hr=>?_⟩;simp only [List.mem_cons]at hr
   rcases hr with rfl|rfl|hr
   ·refine fun _=>⟨.inl hb',fun i hi=>?_⟩
    obtain⟨cs,k1,k2,k3⟩:=hg i hi;exact⟨cs,k1,k2,xzdf k3 (by intro e;subst e;simp at k2) h.1⟩
   ·exact hs
   ·exact h.2 r (by simp [hr])
theorem RowsIn.told {w0 W W':World}{t:Tree}{s:List Tree}{b o:Nat}{st:List Row}{J:List Row->World->Prop}(h:RowsIn w0 ((t::s,b,o)::st) W)(hk:KeepsTrees w0 W W')
 (hj:∀ b' o',RowsIn w0 ((t.sub,b',o')::(s,b,o+8)::st) W'->J ((t.sub,b',o')::(s,b,o+8)::st) W'):Told J t s b o st W':=by
 obtain⟨A,c,h1,h2,h3,h4,b',o',h5,h6⟩:=h.head
 have hsame:W'.heap[b]? =W.heap[b]? :=by
  rcases(h.2 (t::s,b,o) (by simp) (by simp)).1 with g|⟨cs,g⟩
  ·exact hk.1.block _ g
  ·exact(hk.2 _ _ g).trans g.symm
 refine⟨A,c,b',o',?_,h2,h3,h5,hj b' o' (h6.keep hk)⟩;rw [World.cell?_of_block (w:=W) hsame];exact h4 5 _ rfl
theorem RowsIn.start {w0 W:World}{T:Tree}{cs:List Value}{g:Nat}(hT:Tree.At w0 T (.agg cs.toArray))(h8:cs.length=8)(hb:Below w0.heap.size w0 W)(hg:W.heap[g]? =some (.cells cs.toArray 55 (0,0))):RowsIn w0 [([T],g,0)] W:=by
 refine⟨hb,fun r hr=>?_⟩;simp only [List.mem_singleton]at hr;subst hr
 refine fun _=>⟨.inr ⟨_,hg⟩,fun i hi=>?_⟩
 obtain rfl:i=0:=by simpa using hi
 refine⟨cs,hT,h8,fun j v hv=>?_⟩;have:BlkIs W g 55 cs.toArray:=hg;have:=this.cell j
 simpa [hv]using this
end
section
open Go.RowKit
def byteMayB (n:Nat)(lo hi:Int):Bool:=decide (n=0)&&(decide (lo=0)&&decide (hi=0))
def emptyMayB (m:Nat->Bool)(n:Nat)(lo hi:Int):Bool:=setEq m (fun _=>false)&&byteMayB n lo hi
def rowMayB (m:Nat->Bool)(n:Nat)(lo hi:Int):Bool:=setEq m (fun _=>false)&&(decide (2<=n)&&(decide (lo=0)&&decide (hi=0)))
def repMayB (m:Nat->Bool)(n:Nat)(lo hi:Int):Bool:=setEq m (fun _=>false)&&(decide (n=1)&&(decide (0<=lo)&&(decide (lo<=64)&&(decide (hi= -1)||(decide (lo<=hi)&&decide (hi<=64))))))
set_option maxHeartbeats 1000000 in
theorem xzjh (k:Int)(m:Nat->Bool)(A:Option Addr)(n c:Nat)(lo hi:Int)(w:World):
 Calls Tryz.prog 126 #[reV k m A n c lo hi] w fun e w'=>e=.returned (.bool (byteMayB n lo hi))/\Below w.heap.size w w':=by
 unfold reV reL byteMayB;have hbox:=BlkIs.new w 169 (reL k m A n c lo hi).toArray;unfold reL at hbox;obtain⟨c0,c1,c2,c3,c4,c5,c6,c7⟩:=hbox.eight;clear hbox;have b0:Below w.heap.size w (w.alloc (.cells #[.int .i64 k,.int .u64 (wd m 0:Nat),.int .u64 (wd m 1:Nat),.int .u64 (wd m 2:Nat),.int .u64 (wd m 3:Nat),.slice A n c,.int .i64 lo,.int .i64 hi] 169)):=(Below.refl _ _).alloc (Nat.le_refl _) _;have HB:=zd b0;clear b0
 by_cases h1:n=0
 ·subst h1
  by_cases h2:lo=0
  ·subst h2
   by_cases h3:hi=0
   ·subst h3
    go_enter Tryz.func126,Tryz.ntmps126
    go_wp2;go_ret;exact⟨rfl,HB.out⟩
   ·have e3:(hi==0)=false:=by simp [h3]
    have d3:decide (hi=0)=false:=by simp [h3]
    rw [d3]
    go_enter Tryz.func126,Tryz.ntmps126
    go_wp2;go_ret;exact⟨rfl,HB.out⟩
  ·have e2:(lo==0)=false:=by simp [h2]
   have d2:decide (lo=0)=false:=by simp [h2]
   rw [d2]
   go_enter Tryz.func126,Tryz.ntmps126
   go_wp2;go_ret;exact⟨rfl,HB.out⟩
 ·have e1:((n:Int)==0)=false:=by simp;omega
  have d1:decide (n=0)=false:=by simp [h1]
  rw [d1]
  go_enter Tryz.func126,Tryz.ntmps126
  go_wp2;go_ret;exact⟨rfl,HB.out⟩
set_option maxHeartbeats 1000000 in
theorem xznu (k:Int)(m:Nat->Bool)(A:Option Addr)(n c:Nat)(lo hi:Int)(w:World):
 Calls Tryz.prog 125 #[reV k m A n c lo hi] w fun e w'=>e=.returned (.bool (emptyMayB m n lo hi))/\Below w.heap.size w w':=by
 have hcall:=fun u=>xzjh k m A n c lo hi u
 have hne:=xzla m (fun _=>false);rw [xzgx]at hne;unfold setV at hne;unfold reV reL emptyMayB at*;generalize byteMayB n lo hi=q at*;have hbox:=BlkIs.new w 169 (reL k m A n c lo hi).toArray;unfold reL at hbox;obtain⟨c0,c1,c2,c3,c4,c5,c6,c7⟩:=hbox.eight;clear hbox;have b0:Below w.heap.size w (w.alloc (.cells #[.int .i64 k,.int .u64 (wd m 0:Nat),.int .u64 (wd m 1:Nat),.int .u64 (wd m 2:Nat),.int .u64 (wd m 3:Nat),.slice A n c,.int .i64 lo,.int .i64 hi] 169)):=(Below.refl _ _).alloc (Nat.le_refl _) _;have HB:=zd b0;have HC:=zd hcall;clear b0 hcall;generalize hs:setEq m (fun _=>false)=y at*
 cases y
 ·go_enter Tryz.func125,Tryz.ntmps125
  go_wp2;go_ret;exact⟨rfl,HB.out⟩
 ·rw [Bool.true_and]
  go_enter Tryz.func125,Tryz.ntmps125
  go_wp2_with fail
  refine(HC.out _).mono ?_;rintro e w1 ⟨rfl,hb1⟩;have HB1:=zd (HB.out.trans (hb1.mono HB.out.size));clear hb1;go_wp2;go_ret;exact⟨rfl,HB1.out⟩
set_option maxHeartbeats 2000000 in
theorem xzmb (k:Int)(m:Nat->Bool)(A:Option Addr)(n c:Nat)(lo hi:Int)(w:World):
 Calls Tryz.prog 127 #[reV k m A n c lo hi] w fun e w'=>e=.returned (.bool (rowMayB m n lo hi))/\Below w.heap.size w w':=by
 have hne:=xzla m (fun _=>false);rw [xzgx]at hne;unfold setV at hne;unfold reV reL;have hbox:=BlkIs.new w 169 (reL k m A n c lo hi).toArray;unfold reL at hbox;obtain⟨c0,c1,c2,c3,c4,c5,c6,c7⟩:=hbox.eight;clear hbox;have b0:Below w.heap.size w (w.alloc (.cells #[.int .i64 k,.int .u64 (wd m 0:Nat),.int .u64 (wd m 1:Nat),.int .u64 (wd m 2:Nat),.int .u64 (wd m 3:Nat),.slice A n c,.int .i64 lo,.int .i64 hi] 169)):=(Below.refl _ _).alloc (Nat.le_refl _) _;have HB:=zd b0;clear b0;obtain⟨R,hR⟩:∃ R,rowMayB m n lo hi=R:=⟨_,rfl⟩;rw [hR];unfold rowMayB at hR;have HR:=zd hR;clear hR;generalize hs:setEq m (fun _=>false)=y at*
 go_enter Tryz.func127,Tryz.ntmps127
 go_wp2
 all_goals (
  go_ret;refine⟨?_,(Below.refl _ _).alloc (Nat.le_refl _) _⟩;rw [<-HR.out];refine congrArg (fun b=>Ending.returned (Value.bool b)) ?_;clear HR HB hne
  first|(simp_all;done)|(simp_all;omega)|grind)
set_option maxHeartbeats 4000000 in
theorem xzux (k:Int)(m:Nat->Bool)(A:Option Addr)(n c:Nat)(lo hi:Int)(w:World):
 Calls Tryz.prog 128 #[reV k m A n c lo hi] w fun e w'=>e=.returned (.bool (repMayB m n lo hi))/\Below w.heap.size w w':=by
 have hne:=xzla m (fun _=>false);rw [xzgx]at hne;unfold setV at hne;unfold reV reL;have hbox:=BlkIs.new w 169 (reL k m A n c lo hi).toArray;unfold reL at hbox;obtain⟨c0,c1,c2,c3,c4,c5,c6,c7⟩:=hbox.eight;clear hbox;obtain⟨R,hR⟩:∃ R,repMayB m n lo hi=R:=⟨_,rfl⟩;rw [hR];unfold repMayB at hR;have HR:=zd hR;clear hR;generalize hs:setEq m (fun _=>false)=y at*
 go_enter Tryz.func128,Tryz.ntmps128
 go_wp2
 all_goals (
  go_ret;refine⟨?_,(Below.refl _ _).alloc (Nat.le_refl _) _⟩;rw [<-HR.out];refine congrArg (fun b=>Ending.returned (Value.bool b)) ?_;clear HR hne
  first|(simp_all;done)|(simp_all;omega)|grind)
def formsA:Array Value:=#[.func (.func 125) #[] #[],.func (.func 126) #[] #[],.func (.func 127) #[] #[],.func (.func 127) #[] #[],.func (.func 128) #[] #[]]
theorem xzfk {B:Nat}{w0:World}(g:Nat):∀ (vs:List Value) (o:Nat) (w:World),B<=g->Below B w0 w->Below B w0 (w.setCells g o vs)
 |[],_,_,_,h=>h
 |v::r,o,w,hg,h=>by
  rw [World.setCells];exact xzfk g r (o+1) _ hg (h.setCell (p:=⟨g,o,none⟩) hg v)
theorem xzmc:(Tryz.prog.info? 196).map (·.size)=some 5:=by kernel_rfl
theorem formsOne:formsA.all (·.oneCell')=true:=by simp [formsA,Value.oneCell']
theorem xzew (w:World):Calls Tryz.prog 113 #[] w fun e w'=>e=.returned (.agg formsA)/\Below w.heap.size w w':=by
 have hr:=BlkIs.new w 196 #[Value.nilFunc,Value.nilFunc,Value.nilFunc,Value.nilFunc,Value.nilFunc];have hw:=hr.fill (new:=formsA) rfl;have hB:=xzfk w.heap.size formsA.toList 0 _ (Nat.le_refl _) ((Below.refl w.heap.size w).alloc (Nat.le_refl _) (.cells #[Value.nilFunc,Value.nilFunc,Value.nilFunc,Value.nilFunc,Value.nilFunc] 196));have hl:=run_loadVar_mid (P:=Tryz.prog) _ w.heap.size 0 196 formsA.toList _ hw.range Tryz.underlying196 rfl xzmc;have HB:=zd hB;have HL:=zd hl;have HR:=zd hr;clear hw hB hl hr
 go_enter Tryz.func113,Tryz.ntmps113
 go_wp2_with(first|refine wpList_store_mid rfl 196 (.tmp 0) (.tmp 1) rfl w.heap.size 0 formsA rfl rfl HR.out.there xzmc formsOne ?_)
 exact bodyPost_ret (xzae rfl (by simp [Act.put]) HL.out) rfl ⟨rfl,HB.out⟩
def nodeMayB (k:Int)(m:Nat->Bool)(n:Nat)(lo hi:Int):Bool:=
 if k=0 then emptyMayB m n lo hi else if k=1 then byteMayB n lo hi else if k=2\/k=3 then rowMayB m n lo hi else if k=4 then repMayB m n lo hi else false
theorem xzuy (k:Int)(m:Nat->Bool)(n:Nat)(lo hi:Int):nodeMayB k m n lo hi=okNode k m n lo hi:=by
 unfold nodeMayB okNode emptyMayB byteMayB rowMayB repMayB;generalize setEq m (fun _=>false)=y
 by_cases h0:k=0
 ·subst h0;cases y<;>by_cases e1:n=0<;>by_cases e2:lo=0<;>by_cases e3:hi=0<;>simp [e1,e2,e3]
 by_cases h1:k=1
 ·subst h1;cases y<;>by_cases e1:n=0<;>by_cases e2:lo=0<;>by_cases e3:hi=0<;>simp [e1,e2,e3]
 by_cases h2:k=2\/k=3
 ·have h4:k≠4:=by omega
  cases y<;>by_cases e1:2<=n<;>by_cases e2:lo=0<;>by_cases e3:hi=0<;>simp [h0,h1,h2,h4,e1,e2,e3]
 by_cases h4:k=4
 ·subst h4;cases y
  ·simp
  ·rw [Bool.eq_iff_iff];simp
 simp [h0,h1,h2,h4]
set_option maxRecDepth 100000 in
set_option maxHeartbeats 4000000 in
theorem may_in0 (m:Nat->Bool)(A:Option Addr)(n c:Nat)(lo hi:Int)(w:World):
 Calls Tryz.prog 94 #[reV 0 m A n c lo hi] w fun e w'=>e=.returned (.bool (emptyMayB m n lo hi))/\Below w.heap.size w w':=by
 have hcall:=fun u=>xznu 0 m A n c lo hi u
 generalize emptyMayB m n lo hi=q at*;unfold reV reL at*;have hbox:=BlkIs.new w 169 (reL 0 m A n c lo hi).toArray;have b0:Below w.heap.size w (w.alloc (.cells (reL 0 m A n c lo hi).toArray 169)):=(Below.refl _ _).alloc (Nat.le_refl _) _;unfold reL at hbox b0
 have hix:∀ u,(Instr.index 196 (.agg formsA) (.int .i64 0)).run Tryz.prog u=.ok (.func (.func 125) #[] #[]) u:=fun u=>by kernel_rfl
 go_enter Tryz.func94,Tryz.ntmps94
 go_wp2;generalize w.alloc (.cells #[.int .i64 0,.int .u64 (wd m 0:Nat),.int .u64 (wd m 1:Nat),.int .u64 (wd m 2:Nat),.int .u64 (wd m 3:Nat),.slice A n c,.int .i64 lo,.int .i64 hi] 169)=w2 at*;obtain⟨c0,c1,c2,c3,c4,c5,c6,c7⟩:=hbox.eight;have HX:=zd hbox;have HB:=zd b0;have HC:=zd hcall;clear hbox b0 hcall
 go_region_held3 (fun w'=>Below w2.heap.size w2 w'/\w'.cell? ⟨w.heap.size,0,none⟩=some (.int .i64 0)/\w'.cell? ⟨w.heap.size,1,none⟩=some (.int .u64 (wd m 0:Nat))/\w'.cell? ⟨w.heap.size,2,none⟩=some (.int .u64 (wd m 1:Nat))/\
  w'.cell? ⟨w.heap.size,3,none⟩=some (.int .u64 (wd m 2:Nat))/\w'.cell? ⟨w.heap.size,4,none⟩=some (.int .u64 (wd m 3:Nat))/\w'.cell? ⟨w.heap.size,5,none⟩=some (.slice A n c)/\w'.cell? ⟨w.heap.size,6,none⟩=some (.int .i64 lo)/\w'.cell? ⟨w.heap.size,7,none⟩=some (.int .i64 hi))
  ((first
    |(have hb3:=(by assumption:Below w2.heap.size w2 _/\_).1.trans (hb1.mono (by assumption:Below w2.heap.size w2 _/\_).1.size);exact⟨hb3,(HX.out.step hb3).eight⟩)
    |exact⟨(Below.refl _ _).drew,HX.out.eight⟩
    |assumption
    |go_keep))
  ((first
    |(go_at_call 113;go_must(refine(xzew _).mono ?_);rintro e w1 ⟨rfl,hb1⟩)
    |(go_at_call 125;go_must(refine(HC.out _).mono ?_);rintro e w1 ⟨rfl,hb1⟩)))
 have hS:=(by assumption:Below w2.heap.size w2 w1/\_).1;have HS:=zd (HB.out.trans (hS.mono HB.out.size));clear hS;go_wp2;go_ret;exact⟨rfl,HS.out⟩
set_option maxRecDepth 100000 in
set_option maxHeartbeats 4000000 in
theorem may_in1 (m:Nat->Bool)(A:Option Addr)(n c:Nat)(lo hi:Int)(w:World):
 Calls Tryz.prog 94 #[reV 1 m A n c lo hi] w fun e w'=>e=.returned (.bool (byteMayB n lo hi))/\Below w.heap.size w w':=by
 have hcall:=fun u=>xzjh 1 m A n c lo hi u
 generalize byteMayB n lo hi=q at*;unfold reV reL at*;have hbox:=BlkIs.new w 169 (reL 1 m A n c lo hi).toArray;have b0:Below w.heap.size w (w.alloc (.cells (reL 1 m A n c lo hi).toArray 169)):=(Below.refl _ _).alloc (Nat.le_refl _) _;unfold reL at hbox b0
 have hix:∀ u,(Instr.index 196 (.agg formsA) (.int .i64 1)).run Tryz.prog u=.ok (.func (.func 126) #[] #[]) u:=fun u=>by kernel_rfl
 go_enter Tryz.func94,Tryz.ntmps94
 go_wp2;generalize w.alloc (.cells #[.int .i64 1,.int .u64 (wd m 0:Nat),.int .u64 (wd m 1:Nat),.int .u64 (wd m 2:Nat),.int .u64 (wd m 3:Nat),.slice A n c,.int .i64 lo,.int .i64 hi] 169)=w2 at*;obtain⟨c0,c1,c2,c3,c4,c5,c6,c7⟩:=hbox.eight;have HX:=zd hbox;have HB:=zd b0;have HC:=zd hcall;clear hbox b0 hcall
 go_region_held3 (fun w'=>Below w2.heap.size w2 w'/\w'.cell? ⟨w.heap.size,0,none⟩=some (.int .i64 1)/\w'.cell? ⟨w.heap.size,1,none⟩=some (.int .u64 (wd m 0:Nat))/\w'.cell? ⟨w.heap.size,2,none⟩=some (.int .u64 (wd m 1:Nat))/\
  w'.cell? ⟨w.heap.size,3,none⟩=some (.int .u64 (wd m 2:Nat))/\w'.cell? ⟨w.heap.size,4,none⟩=some (.int .u64 (wd m 3:Nat))/\w'.cell? ⟨w.heap.size,5,none⟩=some (.slice A n c)/\w'.cell? ⟨w.heap.size,6,none⟩=some (.int .i64 lo)/\w'.cell? ⟨w.heap.size,7,none⟩=some (.int .i64 hi))
  ((first
    |(have hb3:=(by assumption:Below w2.heap.size w2 _/\_).1.trans (hb1.mono (by assumption:Below w2.heap.size w2 _/\_).1.size);exact⟨hb3,(HX.out.step hb3).eight⟩)
    |exact⟨(Below.refl _ _).drew,HX.out.eight⟩
    |assumption
    |go_keep))
  ((first
    |(go_at_call 113;go_must(refine(xzew _).mono ?_);rintro e w1 ⟨rfl,hb1⟩)
    |(go_at_call 126;go_must(refine(HC.out _).mono ?_);rintro e w1 ⟨rfl,hb1⟩)))
 have hS:=(by assumption:Below w2.heap.size w2 w1/\_).1;have HS:=zd (HB.out.trans (hS.mono HB.out.size));clear hS;go_wp2;go_ret;exact⟨rfl,HS.out⟩
set_option maxRecDepth 100000 in
set_option maxHeartbeats 4000000 in
theorem may_in2 (m:Nat->Bool)(A:Option Addr)(n c:Nat)(lo hi:Int)(w:World):
 Calls Tryz.prog 94 #[reV 2 m A n c lo hi] w fun e w'=>e=.returned (.bool (rowMayB m n lo hi))/\Below w.heap.size w w':=by
 have hcall:=fun u=>xzmb 2 m A n c lo hi u
 generalize rowMayB m n lo hi=q at*;unfold reV reL at*;have hbox:=BlkIs.new w 169 (reL 2 m A n c lo hi).toArray;have b0:Below w.heap.size w (w.alloc (.cells (reL 2 m A n c lo hi).toArray 169)):=(Below.refl _ _).alloc (Nat.le_refl _) _;unfold reL at hbox b0
 have hix:∀ u,(Instr.index 196 (.agg formsA) (.int .i64 2)).run Tryz.prog u=.ok (.func (.func 127) #[] #[]) u:=fun u=>by kernel_rfl
 go_enter Tryz.func94,Tryz.ntmps94
 go_wp2;generalize w.alloc (.cells #[.int .i64 2,.int .u64 (wd m 0:Nat),.int .u64 (wd m 1:Nat),.int .u64 (wd m 2:Nat),.int .u64 (wd m 3:Nat),.slice A n c,.int .i64 lo,.int .i64 hi] 169)=w2 at*;obtain⟨c0,c1,c2,c3,c4,c5,c6,c7⟩:=hbox.eight;have HX:=zd hbox;have HB:=zd b0;have HC:=zd hcall;clear hbox b0 hcall
 go_region_held3 (fun w'=>Below w2.heap.size w2 w'/\w'.cell? ⟨w.heap.size,0,none⟩=some (.int .i64 2)/\w'.cell? ⟨w.heap.size,1,none⟩=some (.int .u64 (wd m 0:Nat))/\w'.cell? ⟨w.heap.size,2,none⟩=some (.int .u64 (wd m 1:Nat))/\
  w'.cell? ⟨w.heap.size,3,none⟩=some (.int .u64 (wd m 2:Nat))/\w'.cell? ⟨w.heap.size,4,none⟩=some (.int .u64 (wd m 3:Nat))/\w'.cell? ⟨w.heap.size,5,none⟩=some (.slice A n c)/\w'.cell? ⟨w.heap.size,6,none⟩=some (.int .i64 lo)/\w'.cell? ⟨w.heap.size,7,none⟩=some (.int .i64 hi))
  ((first
    |(have hb3:=(by assumption:Below w2.heap.size w2 _/\_).1.trans (hb1.mono (by assumption:Below w2.heap.size w2 _/\_).1.size);exact⟨hb3,(HX.out.step hb3).eight⟩)
    |exact⟨(Below.refl _ _).drew,HX.out.eight⟩
    |assumption
    |go_keep))
  ((first
    |(go_at_call 113;go_must(refine(xzew _).mono ?_);rintro e w1 ⟨rfl,hb1⟩)
    |(go_at_call 127;go_must(refine(HC.out _).mono ?_);rintro e w1 ⟨rfl,hb1⟩)))
 have hS:=(by assumption:Below w2.heap.size w2 w1/\_).1;have HS:=zd (HB.out.trans (hS.mono HB.out.size));clear hS;go_wp2;go_ret;exact⟨rfl,HS.out⟩
set_option maxRecDepth 100000 in
set_option maxHeartbeats 4000000 in
theorem may_in3 (m:Nat->Bool)(A:Option Addr)(n c:Nat)(lo hi:Int)(w:World):
 Calls Tryz.prog 94 #[reV 3 m A n c lo hi] w fun e w'=>e=.returned (.bool (rowMayB m n lo hi))/\Below w.heap.size w w':=by
 have hcall:=fun u=>xzmb 3 m A n c lo hi u
 generalize rowMayB m n lo hi=q at*;unfold reV reL at*;have hbox:=BlkIs.new w 169 (reL 3 m A n c lo hi).toArray;have b0:Below w.heap.size w (w.alloc (.cells (reL 3 m A n c lo hi).toArray 169)):=(Below.refl _ _).alloc (Nat.le_refl _) _;unfold reL at hbox b0
 have hix:∀ u,(Instr.index 196 (.agg formsA) (.int .i64 3)).run Tryz.prog u=.ok (.func (.func 127) #[] #[]) u:=fun u=>by kernel_rfl
 go_enter Tryz.func94,Tryz.ntmps94
 go_wp2;generalize w.alloc (.cells #[.int .i64 3,.int .u64 (wd m 0:Nat),.int .u64 (wd m 1:Nat),.int .u64 (wd m 2:Nat),.int .u64 (wd m 3:Nat),.slice A n c,.int .i64 lo,.int .i64 hi] 169)=w2 at*;obtain⟨c0,c1,c2,c3,c4,c5,c6,c7⟩:=hbox.eight;have HX:=zd hbox;have HB:=zd b0;have HC:=zd hcall;clear hbox b0 hcall
 go_region_held3 (fun w'=>Below w2.heap.size w2 w'/\w'.cell? ⟨w.heap.size,0,none⟩=some (.int .i64 3)/\w'.cell? ⟨w.heap.size,1,none⟩=some (.int .u64 (wd m 0:Nat))/\w'.cell? ⟨w.heap.size,2,none⟩=some (.int .u64 (wd m 1:Nat))/\
  w'.cell? ⟨w.heap.size,3,none⟩=some (.int .u64 (wd m 2:Nat))/\w'.cell? ⟨w.heap.size,4,none⟩=some (.int .u64 (wd m 3:Nat))/\w'.cell? ⟨w.heap.size,5,none⟩=some (.slice A n c)/\w'.cell? ⟨w.heap.size,6,none⟩=some (.int .i64 lo)/\w'.cell? ⟨w.heap.size,7,none⟩=some (.int .i64 hi))
  ((first
    |(have hb3:=(by assumption:Below w2.heap.size w2 _/\_).1.trans (hb1.mono (by assumption:Below w2.heap.size w2 _/\_).1.size);exact⟨hb3,(HX.out.step hb3).eight⟩)
    |exact⟨(Below.refl _ _).drew,HX.out.eight⟩
    |assumption
    |go_keep))
  ((first
    |(go_at_call 113;go_must(refine(xzew _).mono ?_);rintro e w1 ⟨rfl,hb1⟩)
    |(go_at_call 127;go_must(refine(HC.out _).mono ?_);rintro e w1 ⟨rfl,hb1⟩)))
 have hS:=(by assumption:Below w2.heap.size w2 w1/\_).1;have HS:=zd (HB.out.trans (hS.mono HB.out.size));clear hS;go_wp2;go_ret;exact⟨rfl,HS.out⟩
set_option maxRecDepth 100000 in
set_option maxHeartbeats 4000000 in
theorem may_in4 (m:Nat->Bool)(A:Option Addr)(n c:Nat)(lo hi:Int)(w:World):
 Calls Tryz.prog 94 #[reV 4 m A n c lo hi] w fun e w'=>e=.returned (.bool (repMayB m n lo hi))/\Below w.heap.size w w':=by
 have hcall:=fun u=>xzux 4 m A n c lo hi u
 generalize repMayB m n lo hi=q at*;unfold reV reL at*;have hbox:=BlkIs.new w 169 (reL 4 m A n c lo hi).toArray;have b0:Below w.heap.size w (w.alloc (.cells (reL 4 m A n c lo hi).toArray 169)):=(Below.refl _ _).alloc (Nat.le_refl _) _;unfold reL at hbox b0
 have hix:∀ u,(Instr.index 196 (.agg formsA) (.int .i64 4)).run Tryz.prog u=.ok (.func (.func 128) #[] #[]) u:=fun u=>by kernel_rfl
 go_enter Tryz.func94,Tryz.ntmps94
 go_wp2;generalize w.alloc (.cells #[.int .i64 4,.int .u64 (wd m 0:Nat),.int .u64 (wd m 1:Nat),.int .u64 (wd m 2:Nat),.int .u64 (wd m 3:Nat),.slice A n c,.int .i64 lo,.int .i64 hi] 169)=w2 at*;obtain⟨c0,c1,c2,c3,c4,c5,c6,c7⟩:=hbox.eight;have HX:=zd hbox;have HB:=zd b0;have HC:=zd hcall;clear hbox b0 hcall
 go_region_held3 (fun w'=>Below w2.heap.size w2 w'/\w'.cell? ⟨w.heap.size,0,none⟩=some (.int .i64 4)/\w'.cell? ⟨w.heap.size,1,none⟩=some (.int .u64 (wd m 0:Nat))/\w'.cell? ⟨w.heap.size,2,none⟩=some (.int .u64 (wd m 1:Nat))/\
  w'.cell? ⟨w.heap.size,3,none⟩=some (.int .u64 (wd m 2:Nat))/\w'.cell? ⟨w.heap.size,4,none⟩=some (.int .u64 (wd m 3:Nat))/\w'.cell? ⟨w.heap.size,5,none⟩=some (.slice A n c)/\w'.cell? ⟨w.heap.size,6,none⟩=some (.int .i64 lo)/\w'.cell? ⟨w.heap.size,7,none⟩=some (.int .i64 hi))
  ((first
    |(have hb3:=(by assumption:Below w2.heap.size w2 _/\_).1.trans (hb1.mono (by assumption:Below w2.heap.size w2 _/\_).1.size);exact⟨hb3,(HX.out.step hb3).eight⟩)
    |exact⟨(Below.refl _ _).drew,HX.out.eight⟩
    |assumption
    |go_keep))
  ((first
    |(go_at_call 113;go_must(refine(xzew _).mono ?_);rintro e w1 ⟨rfl,hb1⟩)
    |(go_at_call 128;go_must(refine(HC.out _).mono ?_);rintro e w1 ⟨rfl,hb1⟩)))
 have hS:=(by assumption:Below w2.heap.size w2 w1/\_).1;have HS:=zd (HB.out.trans (hS.mono HB.out.size));clear hS;go_wp2;go_ret;exact⟨rfl,HS.out⟩
set_option maxRecDepth 100000 in
set_option maxHeartbeats 2000000 in
theorem may_out (k:Int)(m:Nat->Bool)(A:Option Addr)(n c:Nat)(lo hi:Int)(w:World)(hk:k<0\/5<=k):
 Calls Tryz.prog 94 #[reV k m A n c lo hi] w fun e w'=>e=.returned (.bool false)/\Below w.heap.size w w':=by
 unfold reV reL at*;have hbox:=BlkIs.new w 169 (reL k m A n c lo hi).toArray;have b0:Below w.heap.size w (w.alloc (.cells (reL k m A n c lo hi).toArray 169)):=(Below.refl _ _).alloc (Nat.le_refl _) _;unfold reL at hbox b0
 go_enter Tryz.func94,Tryz.ntmps94
 go_wp2;generalize w.alloc (.cells #[.int .i64 k,.int .u64 (wd m 0:Nat),.int .u64 (wd m 1:Nat),.int .u64 (wd m 2:Nat),.int .u64 (wd m 3:Nat),.slice A n c,.int .i64 lo,.int .i64 hi] 169)=w2 at*;obtain⟨c0,c1,c2,c3,c4,c5,c6,c7⟩:=hbox.eight;have HB:=zd b0;clear hbox b0
 rcases hk with hk|hk
 ·have e1:decide (k>=0)=false:=by simp;omega
  go_quiet (fail)
  go_wp2;go_ret;exact⟨rfl,HB.out.os,HB.out.tape,HB.out.output,HB.out.size,HB.out.block⟩
 ·have e1:decide (k>=0)=true:=by simp;omega
  have e2:decide (k<5)=false:=by simp;omega
  go_quiet (fail)
  go_wp2;go_ret;exact⟨rfl,HB.out.os,HB.out.tape,HB.out.output,HB.out.size,HB.out.block⟩
theorem xzrk (k:Int)(m:Nat->Bool)(A:Option Addr)(n c:Nat)(lo hi:Int)(w:World):
 Calls Tryz.prog 94 #[reV k m A n c lo hi] w fun e w'=>e=.returned (.bool (okNode k m n lo hi))/\Below w.heap.size w w':=by
 rw [<-xzuy];unfold nodeMayB
 by_cases h0:k=0
 ·subst h0
  exact may_in0 m A n c lo hi w
 rw [if_neg h0]
 by_cases h1:k=1
 ·subst h1
  exact may_in1 m A n c lo hi w
 rw [if_neg h1]
 by_cases h2:k=2
 ·subst h2
  rw [if_pos (Or.inl rfl)];exact may_in2 m A n c lo hi w
 by_cases h3:k=3
 ·subst h3
  rw [if_pos (Or.inr rfl)];exact may_in3 m A n c lo hi w
 rw [if_neg (by omega)]
 by_cases h4:k=4
 ·subst h4
  exact may_in4 m A n c lo hi w
 rw [if_neg h4];exact may_out k m A n c lo hi w (by omega)
end
section
open Go.RowKit
def Tree.may (T:Tree):Bool:=decide (wrap64 (T.nodes:Int)<=300)&&(decide (T.deepW<=30)&&T.ok)
mutual
def Tree.same:Tree->Tree->Bool
 | .node k m l lo hi,.node k' m' l' lo' hi'=>(k==k'&&(setEq m m'&&(lo==lo'&&(hi==hi'&&l.length==l'.length))))&&sameL l l'
def sameL:List Tree->List Tree->Bool
 |[],_=>true
 |_::_,[]=>true
 |t::r,t'::r'=>t.same t'&&sameL r r'
end
end
section
open Go.RowKit
def nodesS:List Row->Nat
 |[]=>0
 |r::st=>nodesL r.1+nodesS st
theorem xzji (t:Tree)(s:List Tree)(b o b' o' o2:Nat)(st:List Row):nodesS ((t::s,b,o)::st)=nodesS ((t.sub,b',o')::(s,b,o2)::st)+1:=by
 cases t with
 |node k m l lo hi=>simp only [nodesS,nodesL,Tree.nodes,Tree.sub];omega
attribute [local go_sem] Oper.semAt_some
theorem yzag {w0 W:World}{g:Nat}{t:TypeId}{cs:Array Value}(hb:BlkIs W g t cs)(hg:w0.heap.size<=g)(h1:t≠55)(i:Nat)(v:Value):KeepsTrees w0 W (W.setCell ⟨g,i,none⟩ v):=by
 refine⟨(Below.refl _ W).setCell (p:=⟨g,i,none⟩) hg v,fun k c hk=>(Below.heap_setCell W ⟨g,i,none⟩ v k (fun e=>?_)).trans hk⟩
 dsimp only at e
 subst e;have:=hk.symm.trans (show W.heap[k]? =some (.cells cs t (0,0))from hb)
 injection this with this
 injection this with _ e
 exact h1 e.symm
theorem xzmd {W:World}{g:Nat}{t:TypeId}{cs:Array Value}(hb:BlkIs W g t cs)(h1:t≠53)(i:Nat)(v:Value):KeepsRows W (W.setCell ⟨g,i,none⟩ v):=by
 refine⟨(KeepsOthers.setCell W _ v).size,fun k c hk=>(Below.heap_setCell W ⟨g,i,none⟩ v k (fun e=>?_)).trans hk⟩
 dsimp only at e
 subst e;have:=hk.symm.trans (show W.heap[k]? =some (.cells cs t (0,0))from hb)
 injection this with this
 injection this with _ e
 exact h1 e.symm
def deepS:List Row->Nat
 |[]=>0
 |r::st=>max (if r.1=[]then 0 else st.length+deepL r.1) (deepS st)
theorem xzuz (t:Tree)(s:List Tree)(b o b' o' o2:Nat)(st:List Row):max (st.length+1) (deepS ((t.sub,b',o')::(s,b,o2)::st))=deepS ((t::s,b,o)::st):=by
 cases t with
 |node k m l lo hi=>
  simp only [deepS,deepL,Tree.deepN,Tree.sub,List.length_cons]
  cases l with
  |nil=>cases s<;>simp [deepL]<;>omega
  |cons a l=>cases s<;>simp [deepL]<;>omega
theorem xzva (t:Tree)(s:List Tree)(b o:Nat)(st:List Row):st.length+1<=deepS ((t::s,b,o)::st):=by
 cases t with
 |node k m l lo hi=>simp [deepS,deepL,Tree.deepN];omega
end
end Go.Proofs.YtdjpphjpnkfeiaaGreatDoor
