/-
 WHAT May OF PACKAGE rx ANSWERS: a contract. Condition: the tree is at most 2^40 deep.
-/
import Derived.Test.YtdjpphjpnkfeiaaGreatDoorQG15
import Derived.Test.YtdjpphjpnkfeiaaGreatDoorQG06
namespace Go.Proofs.YtdjpphjpnkfeiaaGreatDoor
section
open Go.RowKit
attribute [local go_sem] Oper.semAt_some
def okS:List Row->Bool
 |[]=>true
 |r::st=>allOk r.1&&okS st
theorem xznv (t:Tree)(s:List Tree)(b o b' o' o2:Nat)(st:List Row):okS ((t::s,b,o)::st)=(okNode t.kind t.set t.sub.length t.lo t.hi&&okS ((t.sub,b',o')::(s,b,o2)::st)):=by
 cases t with
 |node k m l lo hi=>
  simp only [okS,allOk,Tree.ok,Tree.sub,Tree.kind,Tree.set,Tree.lo,Tree.hi]
  cases okNode k m l.length lo hi<;>cases allOk l<;>cases allOk s<;>cases okS st<;>rfl
theorem xzvb (x:Nat)(h:x<=300):wrap64 ((x:Int)+1)=(x:Int)+1/\IntKind.i64.wrap ((x:Int)+1)=(x:Int)+1:=by
 constructor
 ·unfold wrap64;omega
 ·rw [IntKind.wrap_i64];omega
def Tree.mayN (T:Tree):Bool:=decide (T.nodes<=300)&&(decide (T.deepN<=30)&&T.ok)
def MayJ (w:World)(T:Tree)(st:List Row)(W:World):Prop:=RowsIn w st W/\∃ x:Nat,x+nodesS st=T.nodes/\x<=300/\(decide (deepS st<=30)&&okS st)=(decide (T.deepN<=30)&&T.ok)/\
 BlkIs W (w.heap.size+1+1+1) 3 #[.int .i64 (x:Nat)]/\BlkIs W (w.heap.size+1) 4 #[.bool false]
def MayX (w:World)(T:Tree)(W:World):Prop:=Below w.heap.size w W/\T.mayN=false/\BlkIs W (w.heap.size+1) 4 #[.bool false]
theorem xzhr {W W':World}(h:Below W.heap.size W W'):KeepsOthers W W':=⟨h.size,fun k _ hk _=>(h.block k (Array.getElem?_eq_some_iff.1 hk).1).trans hk⟩
theorem xzvc {W W':World}(h:Below W.heap.size W W'):KeepsRows W W':=⟨h.size,fun k _ hk=>(h.block k (Array.getElem?_eq_some_iff.1 hk).1).trans hk⟩
theorem xzps {w:World}{g:Nat}{t:TypeId}{x:Bool}(h:BlkIs w g t #[.bool x]):(loadVar 4 ⟨g,0,none⟩).run Tryz.prog w=.ok (.bool x) w:=by
 have c:=h.cell 0
 simp at c
 go_simp
theorem xzme {W:World}{l:Nat}{o:Obj}(o':Obj){g:Nat}{t:TypeId}{cs:Array Value}(h:BlkIs W g t cs)(hl:W.heap[l]? =some o)(ho:o.isCells=false):BlkIs (W.putObj l o') g t cs:=
 (World.putObj_heap_other (fun e=>by subst e;unfold BlkIs at h;rw [h]at hl;cases hl;cases ho)).trans h
theorem xzrl {w:World}{T:Tree}{cs:List Value}(hT:T.At w (.agg cs.toArray))(h8:cs.length=8):
 RowsIn w [([T],w.heap.size+1+1,0)] ((((w.alloc (.cells cs.toArray 55)).alloc (.cells #[.bool false] 4)).alloc (.cells cs.toArray 55)).alloc (.cells #[.int .i64 0] 3))/\
  BlkIs ((((w.alloc (.cells cs.toArray 55)).alloc (.cells #[.bool false] 4)).alloc (.cells cs.toArray 55)).alloc (.cells #[.int .i64 0] 3)) (w.heap.size+1+1+1) 3 #[.int .i64 0]/\
  BlkIs ((((w.alloc (.cells cs.toArray 55)).alloc (.cells #[.bool false] 4)).alloc (.cells cs.toArray 55)).alloc (.cells #[.int .i64 0] 3)) (w.heap.size+1) 4 #[.bool false]/\
  ((((w.alloc (.cells cs.toArray 55)).alloc (.cells #[.bool false] 4)).alloc (.cells cs.toArray 55)).alloc (.cells #[.int .i64 0] 3)).heap.size=w.heap.size+4:=by
 have h0:=((BlkIs.new (w.alloc (.cells cs.toArray 55)) 4 #[.bool false]).alloc (.cells cs.toArray 55)).alloc (.cells #[.int .i64 0] 3);have h1:=(BlkIs.new ((w.alloc (.cells cs.toArray 55)).alloc (.cells #[.bool false] 4)) 55 cs.toArray).alloc (.cells #[.int .i64 0] 3);have h2:=BlkIs.new (((w.alloc (.cells cs.toArray 55)).alloc (.cells #[.bool false] 4)).alloc (.cells cs.toArray 55)) 3 #[.int .i64 0];simp only [World.size_alloc]at h0 h1 h2;refine⟨RowsIn.start hT h8 (((((Below.refl _ _).alloc (Nat.le_refl _) _).alloc (by simp) _).alloc (by simp;omega) _).alloc (by simp;omega) _) h1,h2,h0,by simp⟩
set_option maxRecDepth 100000 in
set_option maxHeartbeats 2000000 in
theorem may_any (T:Tree)(v:Value)(w:World)(hat:T.At w v)(hd:T.deepN<=1099511627776):
 Calls Tryz.prog 78 #[v] w fun e w'=>e=.returned (.bool T.mayN)/\Below w.heap.size w w':=by
 cases T with
 |node k m l lo hi=>
 obtain⟨A,c,rfl,_,_⟩:=hat.open;have HAT:=zd hat;clear hat;unfold reV reL at*;refine(callsIn_wide (n:=3)).1 ?_;refine callsIn_of_wp_marks Tryz.func78 rfl trivial ?_ rfl;simp only [Tryz.ntmps78,List.size_toArray,List.length_cons,List.length_nil,Nat.reduceAdd,Nat.reduceSub,Array.replicate_succ,Array.replicate_zero,List.push_toArray,List.append_toArray,List.nil_append,List.cons_append];refine wpIn_wide.2 ?_;go_wp2;have hs:=xzrl (cs:=reL k m A l.length c lo hi) (by unfold reL;exact HAT.out) rfl;unfold reL at hs;generalize(((w.alloc _).alloc _).alloc _).alloc _=W2 at*;have HS:=zd hs;have hsz:=hs.2.2.2;clear hs;refine(wpIn_wide (n:=3)).1 ?_
 refine xzrj 3 (by omega) 1099511627776 (Nat.le_refl _) (.slice (some ⟨w.heap.size+1+1,0,none⟩) 1 1) rfl (MayJ w (.node k m l lo hi)) (fun _=>MayX w (.node k m l lo hi)) ?hJ ?hIx ?pop
  [Tree.node k m l lo hi] (w.heap.size+1+1) 0 ⟨_,_,rfl,Nat.le_refl _,by omega,fun _=>rfl⟩ (by simpa [deepL]using hd) ?start
  (fun b o d=>{tmps:=#[.agg #[.int .i64 k,.int .u64 (wd m 0:Nat),.int .u64 (wd m 1:Nat),.int .u64 (wd m 2:Nat),.int .u64 (wd m 3:Nat),.slice A l.length c,.int .i64 lo,.int .i64 hi],.pointer (some ⟨w.heap.size,0,none⟩),.pointer (some ⟨w.heap.size+1,0,none⟩),
   .slice (some ⟨w.heap.size+1+1,0,none⟩) 1 1,.pointer (some ⟨w.heap.size+1+1+1,0,none⟩),.pointer (some ⟨b,o,none⟩),.int .i64 ((d:Int)+1),.agg #[.int .i64 k,.int .u64 (wd m 0:Nat),.int .u64 (wd m 1:Nat),.int .u64 (wd m 2:Nat),.int .u64 (wd m 3:Nat),.slice A l.length c,.int .i64 lo,.int .i64 hi],
   .slice (some ⟨w.heap.size+1+1,0,none⟩) 1 1,.slice (some ⟨w.heap.size+1+1,0,none⟩) 1 1,.func (.func 93) #[.slice (some ⟨w.heap.size+1+1,0,none⟩) 1 1] #[],.pointer (some ⟨b,o,none⟩),.int .i64 ((d:Int)+1),undef,undef,undef,undef,undef,undef,undef,undef,undef,undef,undef,undef,undef,undef,undef],defers:=[]})
  ?assign ?body ?done ?stop
 case hJ=>
  rintro st X Y ⟨h1,x,h2,h3,h4,h5,h6⟩ hl;exact⟨h1.loose hl (by omega),x,h2,h3,h4,hl.blk h5 (by decide),hl.blk h6 (by decide)⟩
 case hIx=>
  rintro c X Y ⟨h1,h2,h3⟩ hl;exact⟨hl.below h1 (by omega) h1.size,h2,hl.blk h3 (by decide)⟩
 case pop=>
  rintro b o st X ⟨h1,x,h2,h3,h4,h5,h6⟩;exact⟨h1.pop,x,by simpa [nodesS,nodesL]using h2,h3,by rw [<-h4];simp [deepS,okS,allOk],h5,h6⟩
 case start=>exact⟨HS.out.1,0,by simp [nodesS,nodesL],by omega,by simp [deepS,deepL,okS,allOk],HS.out.2.1,HS.out.2.2.1⟩
 case assign=>
  intro l b o d W K hK
  gi_wp2
  exact hK
 case body=>
  rintro l' t s b o st W hsz' hlen ⟨h1,x,h2,h3,h4,h5,h6⟩;have c0:=h5.cell 0;have f0:=h5.frozen 0;simp only [zq]at c0;obtain⟨hx1,hx2⟩:=xzvb x h3;have hK1:=yzag (w0:=w) h5 (by omega) (by decide) 0 (.int .i64 ((x:Int)+1));have hR1:=h1.keep hK1;obtain⟨A1,cc,g1,g2,g3,g4,g5⟩:=hR1.head
  have h5':BlkIs (W.setCell ⟨w.heap.size+1+1+1,0,none⟩ (.int .i64 ((x:Int)+1))) (w.heap.size+1+1+1) 3 #[.int .i64 ((x:Int)+1)]:=by simpa using h5.put 0 (.int .i64 ((x:Int)+1))
  have h6':=h6.far (p:=⟨w.heap.size+1+1+1,0,none⟩) (by simp) (.int .i64 ((x:Int)+1));have c1:=h5'.cell 0;simp only [zq]at c1;have hbt:=(hR1.1).size;have c2:=h6'.cell 0;have f2:=h6'.frozen 0;simp only [zq]at c2;have hKO:=KeepsOthers.setCell W ⟨w.heap.size+1+1+1,0,none⟩ (.int .i64 ((x:Int)+1));have hKR:=xzmd h5 (by decide) 0 (.int .i64 ((x:Int)+1));generalize hW1:W.setCell ⟨w.heap.size+1+1+1,0,none⟩ (.int .i64 ((x:Int)+1))=W1 at*;have HW1:=zd hW1;have HA:=zd (And.intro h1 (And.intro h2 (And.intro h3 (And.intro h4 (And.intro h5 h6)))));have HB:=zd (And.intro hR1 (And.intro h5' (And.intro h6' (And.intro hbt (And.intro hKO hKR)))));have HC:=zd hK1;clear hK1 hR1 h5' h6' hbt hKO hKR hlen h1 h2 h3 h4 h5 h6 g1 g2 g3 g5;have hds:=zd (xzva t s b o st);have hns:=zd (xzji t s b o 0 0 0 st);have hok:=zd (xznv t s b o 0 0 0 st)
  have hfin:∀ W3,KeepsOthers W1 W3->Below w.heap.size W1 W3->BlkIs W3 (w.heap.size+1) 4 #[.bool false]->(Tree.node k m l lo hi).mayN=false->KeepsOthers W (W3.setCell ⟨w.heap.size+1,0,none⟩ (.bool false))/\MayX w (.node k m l lo hi) (W3.setCell ⟨w.heap.size+1,0,none⟩ (.bool false)):=fun W3 k1 k2 k3 k4=>
   ⟨(HB.out.2.2.2.2.1.trans k1).trans (KeepsOthers.setCell _ _ _),((HB.out.1.1.trans k2).setCell (p:=⟨w.heap.size+1,0,none⟩) (Nat.le_succ _) _),k4,by simpa using k3.put 0 (.bool false)⟩
  have HF:=zd hfin;clear hfin
  by_cases hq1:x+1>300
  ·have e1:decide (((x:Int)+1)>300)=true:=decide_eq_true (by omega)
   gi_wp2
   refine⟨trivial,?_⟩
   gi_wp2
   refine HF.out W1 (KeepsOthers.refl _) (Below.refl _ _) HB.out.2.2.1 ?_;have h2:=HA.out.2.1;have h3:=hns.out;unfold Tree.mayN;rw [decide_eq_false (by omega)];rfl
  ·have e1:decide (((x:Int)+1)>300)=false:=decide_eq_false (by omega)
   by_cases hq2:st.length+1>30
   ·have e2:decide (((st.length:Int)+1)>30)=true:=decide_eq_true (by omega)
    gi_wp2
    refine⟨trivial,?_⟩
    gi_wp2
    refine HF.out W1 (KeepsOthers.refl _) (Below.refl _ _) HB.out.2.2.1 ?_;have h4:=HA.out.2.2.2.1;have h3:=hds.out;rw [decide_eq_false (show ¬ deepS ((t::s,b,o)::st)<=30 by omega)]at h4;unfold Tree.mayN;rw [<-h4];simp
   ·have e2:decide (((st.length:Int)+1)>30)=false:=decide_eq_false (by omega)
    obtain⟨r0,r1,r2,r3,r4,r5,r6,r7⟩:=xzdg g4 (Below.refl _ _);have HM:=zd (xzrk t.kind t.set A1 t.sub.length cc t.lo t.hi W1);unfold reV reL at HM;have HO:=zd (xznv t s b o 0 0 0 st);generalize hq:okNode t.kind t.set t.sub.length t.lo t.hi=q at*;have HQ:=zd hq;clear hq hok
    cases q
    ·gi_wp2_with (first|(refine⟨trivial,?_⟩;gi_at_call 94;refine(CallsIn.inRound l' (callsIn_wide.2 HM.out)).mono ?_;rintro e W3 ⟨rfl,hb3⟩;have hbl3:=HB.out.2.2.1.step hb3;have cB3:=hbl3.cell 0;have fB3:=hbl3.frozen 0;simp only [zq]at cB3))
     refine HF.out W3 (xzhr hb3) (hb3.mono HB.out.2.2.2.1) hbl3 ?_;have h4:=HA.out.2.2.2.1;rw [HO.out,Bool.false_and,Bool.and_false]at h4;unfold Tree.mayN;rw [<-h4,Bool.and_false]
    ·gi_wp2_with (first|(refine⟨trivial,?_⟩;gi_at_call 94;refine(CallsIn.inRound l' (callsIn_wide.2 HM.out)).mono ?_;rintro e W3 ⟨rfl,hb3⟩;have hbl3:=HB.out.2.2.1.step hb3;have cB3:=hbl3.cell 0;have fB3:=hbl3.frozen 0;simp only [zq]at cB3))
     have hkt:KeepsTrees w W1 W3:=(xzjg hb3).trees HB.out.2.2.2.1 HB.out.2.2.2.1;refine⟨HB.out.2.2.2.2.1.trans (xzhr hb3),HB.out.2.2.2.2.2.trans (xzvc hb3),RowsIn.told HA.out.1 ⟨HC.out.1.trans hkt.1,fun k cs hk=>hkt.2 k cs (HC.out.2 k cs hk)⟩ fun b' o' hr=>⟨hr,x+1,?_,by omega,?_,?_,hbl3⟩⟩
     ·have h2:=HA.out.2.1
      have h3:=xzji t s b o b' o' (o+8) st;omega
     ·have h4:=HA.out.2.2.2.1
      have h3:=xzuz t s b o b' o' (o+8) st;have h5:=xznv t s b o b' o' (o+8) st;rw [<-h4,<-h3,h5,HQ.out,Bool.true_and]
      congr 1
      exact decide_eq_decide.2 (by omega)
     ·have:=HB.out.2.1.step hb3
      rw [show((x+1:Nat):Int)=(x:Int)+1 by omega];exact this
 case done=>
  rintro d W hd' ⟨h1,x,h2,h3,h4,h5,h6⟩ hk;have c0:=h6.cell 0;have f0:=h6.frozen 0;simp only [zq]at c0;have HH:=zd (And.intro h2 (And.intro h3 h4));have HB:=zd h1.1;clear h1 h2 h3 h4 h5;go_wp2;have hK':=(KeepsOthers.setCell W ⟨w.heap.size+1,0,none⟩ (.bool true)).same d _ hk rfl;refine⟨by simp,.inl ⟨_,_,rfl,run_takeDeferred hK',?_⟩⟩
  have hb':BlkIs (W.setCell ⟨w.heap.size+1,0,none⟩ (.bool true)) (w.heap.size+1) 4 #[.bool true]:=by simpa using h6.put 0 (.bool true)
  have hl:=xzps (xzme (.deferred none) hb' hK' rfl);refine⟨_,xzae (p:=2) (ty:=4) rfl rfl hl,?_,(HB.out.setCell (p:=⟨w.heap.size+1,0,none⟩) (Nat.le_succ _) _).trans (belowK_b (w:=w) (Nat.le_refl _) _ d _ _ (by omega) hK' rfl rfl)⟩;obtain⟨h2,h3,h4⟩:=HH.out;simp only [nodesS,Nat.add_zero]at h2;simp only [deepS,okS,Bool.and_true]at h4;unfold Tree.mayN;rw [decide_eq_true (by omega),<-h4];rfl
 case stop=>
  rintro d W hd' ⟨h1,h2,h3⟩ hk
  gi_wp2
  refine⟨by simp,.inl ⟨_,_,rfl,run_takeDeferred hk,?_⟩⟩;have hl:=xzps (xzme (.deferred none) h3 hk rfl);refine⟨_,xzae (p:=2) (ty:=4) rfl rfl hl,?_,h1.trans (belowK_b (w:=w) (Nat.le_refl _) _ d _ _ (by omega) hk rfl rfl)⟩;rw [h2]
end
section
open Go.RowKit
def copiesI (lo hi:Int):Int:=if hi= -1 then max lo 1 else hi
mutual
def Tree.places:Tree->Int
 | .node k _ l lo hi=>min (((if k=1 then 1 else 0)+sumP l)*(if k=4 then copiesI lo hi else 1)) 1000000
def sumP:List Tree->Int
 |[]=>0
 |t::r=>t.places+sumP r
end
theorem xzfl (T:Tree):T.places<=1000000:=by cases T;unfold Tree.places;omega
mutual
theorem xzex:∀ T:Tree,T.ok=true->0<=T.places
 | .node k m l lo hi=>fun h=>by
  have hop:=xzph h;have h1:=sumP_pos l hop.1;have hk:=xzdy hop.2;unfold Tree.places
  have h2:0<=(if k=4 then copiesI lo hi else 1):=by
   unfold copiesI
   split
   ·split<;>omega
   ·omega
  have h3:0<=((if k=1 then 1 else 0)+sumP l):=by split<;>omega
  have:=Int.mul_nonneg h3 h2;omega
theorem sumP_pos:∀ l:List Tree,(∀ t∈l,t.ok=true)->0<=sumP l
 |[]=>fun _=>by simp [sumP]
 |t::r=>fun h=>by
  have h1:=xzex t (h t (by simp))
  have h2:=sumP_pos r fun x hx=>h x (by simp [hx])
  simp only [sumP];omega
end
theorem xzkj:∀ l:List Tree,sumP l<=1000000*l.length
 |[]=>by simp [sumP]
 |t::r=>by
  have h1:=xzfl t;have h2:=xzkj r;simp only [sumP,List.length_cons];omega
theorem xzkk (l:List Tree)(t:Tree):sumP (l++[t])=sumP l+t.places:=by
 induction l with
 |nil=>simp [sumP]
 |cons a r ih=>simp only [List.cons_append,sumP,ih];omega
def PlacesIs (T:Tree):Prop:=∀ (v:Value) (w:World),T.At w v->Calls Tryz.prog 79 #[v] w fun e w'=>e=.returned (.int .i64 T.places)/\Below w.heap.size w w'
set_option maxHeartbeats 2000000 in
theorem xzhs (k:Int)(m:Nat->Bool)(A:Option Addr)(n c:Nat)(lo hi:Int)(w:World):Calls Tryz.prog 95 #[reV k m A n c lo hi] w fun e w'=>e=.returned (.int .i64 (copiesI lo hi))/\Below w.heap.size w w':=by
 have hb0:Below w.heap.size w (w.alloc (.cells (reL k m A n c lo hi).toArray 55)):=(Below.refl _ _).alloc (Nat.le_refl _) _;have HB:=zd hb0;unfold reV reL at*
 by_cases h:hi= -1
 ·have e1:(hi== -1)=true:=by simp [h]
  have HF:=zd (show copiesI lo hi=max lo 1 by unfold copiesI;rw [if_pos h]);clear h hb0;rw [HF.out]
  go_enter Tryz.func95,Tryz.ntmps95
  go_wp2
  all_goals
   go_ret;refine⟨?_,HB.out⟩
   first
    |(have e:max lo 1=lo:=by omega
      rw [e];rfl)
    |(have e:max lo 1=1:=by omega
      rw [e];rfl)
 ·have e1:(hi== -1)=false:=by simp [h]
  have HF:=zd (show copiesI lo hi=hi by unfold copiesI;rw [if_neg h]);clear h hb0;rw [HF.out]
  go_enter Tryz.func95,Tryz.ntmps95
  go_wp2;go_ret;exact⟨rfl,HB.out⟩
set_option maxRecDepth 20000 in
set_option maxHeartbeats 4000000 in
theorem xzht (k:Int)(hk:k=0\/k=2\/k=3)(m:Nat->Bool)(l:List Tree)(lo hi:Int)(hn:l.length<=1048576)(hok:∀ t∈l,t.ok=true)(IH0:∀ t∈l,PlacesIs t):PlacesIs (.node k m l lo hi):=by
 intro v w hat;obtain⟨A,c,rfl,hc,hs⟩:=hat.open;have hbox:=BlkIs.new w 55 (reL k m A l.length c lo hi).toArray;have hB0:Below w.heap.size w (w.alloc (.cells (reL k m A l.length c lo hi).toArray 55)):=(Below.refl _ _).alloc (Nat.le_refl _) _;have HB0:=zd (And.intro hB0 hbox);have HS:=zd hs
 have HSM:=zd (fun(j:Nat)=>(show 0<=sumP (l.take j)/\sumP (l.take j)<=1099511627776 from⟨sumP_pos _ fun t ht=>hok t (List.mem_of_mem_take ht),by
  have h1:=xzkj (l.take j);rw [List.length_take]at h1
  omega⟩))
 obtain⟨R,hR⟩:∃ R,R=Tree.places (.node k m l lo hi):=⟨_,rfl⟩;rw [<-hR];unfold Tree.places at hR;have IH:=zd IH0;unfold PlacesIs at IH;have HPM:=zd (fun(j:Nat) (h:j<l.length)=>And.intro (xzex _ (hok _ (List.getElem_mem h))) (xzfl l[j]));clear hat hs hB0 IH0 hok
 have e1:(k==1)=false:=by simp;omega
 have e4:(k==4)=false:=by simp;omega
 rw [if_neg (by omega),if_neg (by omega)]at hR;have HR:=zd hR;obtain⟨d0,d1,d2,d3,d4,d5,d6,d7⟩:=(show BlkIs _ w.heap.size 55 #[.int .i64 k,.int .u64 (wd m 0:Nat),.int .u64 (wd m 1:Nat),.int .u64 (wd m 2:Nat),.int .u64 (wd m 3:Nat),.slice A l.length c,.int .i64 lo,.int .i64 hi]from hbox).eight;unfold reV reL;clear hR hk hbox
 go_enter Tryz.func79,Tryz.ntmps79
 go_wp2
 go_loopw [3,12] (fun s i wr=>∃ (j:Nat) (n:Int),s=.int .i64 n/\i=.int .i64 j/\j<=l.length/\Hid (n=sumP (l.take j)/\Below w.heap.size w wr/\BlkIs wr w.heap.size 55 (reL k m A l.length c lo hi).toArray)) (fun _ i _=>l.length - (intOf i).toNat)
 case atStart=>exact⟨0,0,rfl,rfl,Nat.zero_le _,zd ⟨by simp [sumP],HB0.out.1,HB0.out.2⟩⟩
 case round=>
  obtain⟨j,n,rfl,rfl,hj,HH⟩:=hrel;have hbl:=HH.out.2.2;unfold reL at hbl
  by_cases hp:j<l.length
  ·have hdl:decide ((j:Int)<(l.length:Int))=true:=by simp;omega
   obtain⟨b,o,rfl,hbw,hg⟩:=HS.out (by intro e;subst e;simp at hp);obtain⟨cs,hcat,hlen,hrow⟩:=hg j hp;obtain⟨A',n',c',rfl⟩:=hcat.eight;obtain⟨r0,r1,r2,r3,r4,r5,r6,r7⟩:=xzdg hrow HH.out.2.1
   have hk1:IntKind.i64.wrap ((j:Int)+1)=((j+1:Nat):Int):=by rw [IntKind.wrap_i64];omega
   have hxb:=BlkIs.new wr 55 (reL (l[j]).kind (l[j]).set A' n' c' (l[j]).lo (l[j]).hi).toArray;have hxw:Below wr.heap.size wr (wr.alloc (.cells (reL (l[j]).kind (l[j]).set A' n' c' (l[j]).lo (l[j]).hi).toArray 55)):=(Below.refl _ _).alloc (Nat.le_refl _) _;obtain⟨W9,hW9⟩:∃ W9,wr.alloc (.cells (reL (l[j]).kind (l[j]).set A' n' c' (l[j]).lo (l[j]).hi).toArray 55)=W9:=⟨_,rfl⟩;rw [hW9]at hxb hxw;have hcx:=IH.out _ (List.getElem_mem hp) _ W9 ((hcat.step HH.out.2.1).step hxw)
   have hss:sumP (l.take (j+1))=sumP (l.take j)+(l[j]).places:=by rw [List.take_succ_eq_append_getElem hp,xzkk]
   have hm1:=HSM.out j;have hm2:=HSM.out (j+1);have hpm:=HPM.out j hp;rw [<-HH.out.1]at hss hm1;simp only [reL]at hW9;unfold reV reL at*;clear hcat hg hrow hlen;generalize(l[j]).places=pp at*;generalize(l[j]).kind=kx at*;generalize(l[j]).set=mx at*;generalize(l[j]).lo=lx at*;generalize(l[j]).hi=hx at*
   have hk2:IntKind.i64.wrap (n+pp)=n+pp:=by rw [IntKind.wrap_i64];omega
   obtain⟨x0,x1,x2,x3,x4,x5,x6,x7⟩:=hxb.eight;have HX:=zd (And.intro (HH.out.2.1.trans (hxw.mono HH.out.2.1.size)) (HH.out.2.2.step hxw));have HC:=zd hcx;have HSS:=zd hss;clear hcx hss hm1 hm2 hpm hxb hxw
   go_wp2_with fail
   go_at_call 79
   refine HC.out.mono ?_;rintro e u ⟨rfl,hbu⟩;have HU:=zd (And.intro (HX.out.1.trans (hbu.mono HX.out.1.size)) (HX.out.2.step hbu));clear hbu x0 x1 x2 x3 x4 x5 x6 x7 r0 r1 r2 r3 r4 r5 r6 r7;go_wp2;exact⟨⟨j+1,n+pp,rfl,rfl,hp,zd ⟨HSS.out.symm,HU.out⟩⟩,by simp [intOf];omega⟩
  ·have hdl:decide ((j:Int)<(l.length:Int))=false:=by simp;omega
   obtain rfl:j=l.length:=by omega
   have hm1:=HSM.out l.length;have hnn:=HH.out.1;rw [List.take_length]at hnn hm1;obtain⟨d0,d1,d2,d3,d4,d5,d6,d7⟩:=hbl.eight;have HF:=zd (show min n 1000000=R by rw [HR.out,hnn];congr 1;omega);clear hnn hm1;go_wp2
   all_goals
    go_ret;refine⟨?_,HH.out.2.1⟩;have hf:=HF.out
    first
     |(have e:R=n:=by omega
       rw [e];rfl)
     |(have e:R=1000000:=by omega
       rw [e];rfl)
set_option maxRecDepth 20000 in
set_option maxHeartbeats 4000000 in
theorem xzvd (k:Int)(hk:k=4)(m:Nat->Bool)(l:List Tree)(lo hi:Int)(hn:l.length<=1048576)(hok:∀ t∈l,t.ok=true)(hcp:0<=copiesI lo hi/\copiesI lo hi<=64)(IH0:∀ t∈l,PlacesIs t):PlacesIs (.node k m l lo hi):=by
 intro v w hat;obtain⟨A,c,rfl,hc,hs⟩:=hat.open;have hbox:=BlkIs.new w 55 (reL k m A l.length c lo hi).toArray;have hB0:Below w.heap.size w (w.alloc (.cells (reL k m A l.length c lo hi).toArray 55)):=(Below.refl _ _).alloc (Nat.le_refl _) _;have HB0:=zd (And.intro hB0 hbox);have HS:=zd hs
 have HSM:=zd (fun(j:Nat)=>(show 0<=sumP (l.take j)/\sumP (l.take j)<=1099511627776 from⟨sumP_pos _ fun t ht=>hok t (List.mem_of_mem_take ht),by
  have h1:=xzkj (l.take j);rw [List.length_take]at h1
  omega⟩))
 obtain⟨R,hR⟩:∃ R,R=Tree.places (.node k m l lo hi):=⟨_,rfl⟩;rw [<-hR];unfold Tree.places at hR;have IH:=zd IH0;unfold PlacesIs at IH;have HPM:=zd (fun(j:Nat) (h:j<l.length)=>And.intro (xzex _ (hok _ (List.getElem_mem h))) (xzfl l[j]));clear hat hs hB0 IH0 hok
 have e1:(k==1)=false:=by simp;omega
 have e4:(k==4)=true:=by simp;omega
 rw [if_neg (by omega),if_pos hk]at hR;have HR:=zd hR;have HCO:=zd (fun u=>xzhs k m A l.length c lo hi u);obtain⟨d0,d1,d2,d3,d4,d5,d6,d7⟩:=(show BlkIs _ w.heap.size 55 #[.int .i64 k,.int .u64 (wd m 0:Nat),.int .u64 (wd m 1:Nat),.int .u64 (wd m 2:Nat),.int .u64 (wd m 3:Nat),.slice A l.length c,.int .i64 lo,.int .i64 hi]from hbox).eight;unfold reV reL at HCO;unfold reV reL;clear hR hk hbox;generalize copiesI lo hi=cp at*
 go_enter Tryz.func79,Tryz.ntmps79
 go_wp2
 go_loopw [3,12] (fun s i wr=>∃ (j:Nat) (n:Int),s=.int .i64 n/\i=.int .i64 j/\j<=l.length/\Hid (n=sumP (l.take j)/\Below w.heap.size w wr/\BlkIs wr w.heap.size 55 (reL k m A l.length c lo hi).toArray)) (fun _ i _=>l.length - (intOf i).toNat)
 case atStart=>exact⟨0,0,rfl,rfl,Nat.zero_le _,zd ⟨by simp [sumP],HB0.out.1,HB0.out.2⟩⟩
 case round=>
  obtain⟨j,n,rfl,rfl,hj,HH⟩:=hrel;have hbl:=HH.out.2.2;unfold reL at hbl
  by_cases hp:j<l.length
  ·have hdl:decide ((j:Int)<(l.length:Int))=true:=by simp;omega
   obtain⟨b,o,rfl,hbw,hg⟩:=HS.out (by intro e;subst e;simp at hp);obtain⟨cs,hcat,hlen,hrow⟩:=hg j hp;obtain⟨A',n',c',rfl⟩:=hcat.eight;obtain⟨r0,r1,r2,r3,r4,r5,r6,r7⟩:=xzdg hrow HH.out.2.1
   have hk1:IntKind.i64.wrap ((j:Int)+1)=((j+1:Nat):Int):=by rw [IntKind.wrap_i64];omega
   have hxb:=BlkIs.new wr 55 (reL (l[j]).kind (l[j]).set A' n' c' (l[j]).lo (l[j]).hi).toArray;have hxw:Below wr.heap.size wr (wr.alloc (.cells (reL (l[j]).kind (l[j]).set A' n' c' (l[j]).lo (l[j]).hi).toArray 55)):=(Below.refl _ _).alloc (Nat.le_refl _) _;obtain⟨W9,hW9⟩:∃ W9,wr.alloc (.cells (reL (l[j]).kind (l[j]).set A' n' c' (l[j]).lo (l[j]).hi).toArray 55)=W9:=⟨_,rfl⟩;rw [hW9]at hxb hxw;have hcx:=IH.out _ (List.getElem_mem hp) _ W9 ((hcat.step HH.out.2.1).step hxw)
   have hss:sumP (l.take (j+1))=sumP (l.take j)+(l[j]).places:=by rw [List.take_succ_eq_append_getElem hp,xzkk]
   have hm1:=HSM.out j;have hm2:=HSM.out (j+1);have hpm:=HPM.out j hp;rw [<-HH.out.1]at hss hm1;simp only [reL]at hW9;unfold reV reL at*;clear hcat hg hrow hlen;generalize(l[j]).places=pp at*;generalize(l[j]).kind=kx at*;generalize(l[j]).set=mx at*;generalize(l[j]).lo=lx at*;generalize(l[j]).hi=hx at*
   have hk2:IntKind.i64.wrap (n+pp)=n+pp:=by rw [IntKind.wrap_i64];omega
   obtain⟨x0,x1,x2,x3,x4,x5,x6,x7⟩:=hxb.eight;have HX:=zd (And.intro (HH.out.2.1.trans (hxw.mono HH.out.2.1.size)) (HH.out.2.2.step hxw));have HC:=zd hcx;have HSS:=zd hss;clear hcx hss hm1 hm2 hpm hxb hxw
   go_wp2_with fail
   go_at_call 79
   refine HC.out.mono ?_;rintro e u ⟨rfl,hbu⟩;have HU:=zd (And.intro (HX.out.1.trans (hbu.mono HX.out.1.size)) (HX.out.2.step hbu));clear hbu x0 x1 x2 x3 x4 x5 x6 x7 r0 r1 r2 r3 r4 r5 r6 r7;go_wp2;exact⟨⟨j+1,n+pp,rfl,rfl,hp,zd ⟨HSS.out.symm,HU.out⟩⟩,by simp [intOf];omega⟩
  ·have hdl:decide ((j:Int)<(l.length:Int))=false:=by simp;omega
   obtain rfl:j=l.length:=by omega
   have hm1:=HSM.out l.length;have hnn:=HH.out.1;rw [List.take_length]at hnn hm1;obtain⟨d0,d1,d2,d3,d4,d5,d6,d7⟩:=hbl.eight;have hmul:0<=n*cp/\n*cp<=1099511627776*64:=⟨Int.mul_nonneg (by omega) (by omega),Int.mul_le_mul (by omega) (by omega) (by omega) (by omega)⟩
   have hk2:IntKind.i64.wrap (n*cp)=n*cp:=by rw [IntKind.wrap_i64];omega
   have HF:=zd (show min (n*cp) 1000000=R by rw [HR.out,hnn];congr 1;rw [Int.zero_add]);clear hnn hm1 hmul
   go_wp2_with fail
   go_at_call 95
   refine(HCO.out _).mono ?_;rintro e u ⟨rfl,hbu⟩;have HU:=zd (HH.out.2.1.trans (hbu.mono HH.out.2.1.size));clear hbu;go_wp2
   all_goals
    go_ret;refine⟨?_,HU.out⟩;have hf:=HF.out
    first
     |(have e:R=n*cp:=by omega
       rw [e];rfl)
     |(have e:R=1000000:=by omega
       rw [e];rfl)
end
section
open Go.RowKit
theorem xzfm:∀ l:List Tree,l.length<=nodesL l
 |[]=>by simp [nodesL]
 |t::r=>by
  have:=xzfm r
  have h:1<=t.nodes:=by cases t;simp [Tree.nodes]
  simp only [nodesL,List.length_cons];omega
theorem xzfn:∀ (l:List Tree) (j:Nat) (h:j<l.length),(l[j]).nodes<=nodesL l
 |t::r,0,_=>by simp [nodesL]
 |t::r,j+1,h=>by
  have:=xzfn r j (by simpa using h);simp only [List.getElem_cons_succ,nodesL];omega
set_option maxRecDepth 20000 in
set_option maxHeartbeats 4000000 in
theorem xzrm (m:Nat->Bool)(lo hi:Int):PlacesIs (.node 1 m [] lo hi):=by
 intro v w hat;obtain⟨A,c,rfl,hc,hs⟩:=hat.open
 have hp:Tree.places (.node 1 m [] lo hi)=1:=by unfold Tree.places;simp [sumP];omega
 rw [hp];have hB0:Below w.heap.size w (w.alloc (.cells (reL 1 m A 0 c lo hi).toArray 55)):=(Below.refl _ _).alloc (Nat.le_refl _) _;have hbox:=BlkIs.new w 55 (reL 1 m A 0 c lo hi).toArray;have H0:=zd (And.intro hB0 hbox);obtain⟨d0,d1,d2,d3,d4,d5,d6,d7⟩:=(show BlkIs _ w.heap.size 55 #[.int .i64 1,.int .u64 (wd m 0:Nat),.int .u64 (wd m 1:Nat),.int .u64 (wd m 2:Nat),.int .u64 (wd m 3:Nat),.slice A 0 c,.int .i64 lo,.int .i64 hi]from hbox).eight;simp only [List.length_nil]at*;unfold reV reL;clear hat hs hp hB0 hbox
 go_enter Tryz.func79,Tryz.ntmps79
 go_wp2
 go_loopw [3,12] (fun s i wr=>s=.int .i64 1/\i=.int .i64 0/\Hid (Below w.heap.size w wr/\BlkIs wr w.heap.size 55 (reL 1 m A 0 c lo hi).toArray)) (fun _ _ _=>0)
 case atStart=>exact⟨rfl,rfl,H0⟩
 case round=>
  obtain⟨rfl,rfl,HH⟩:=hrel;obtain⟨d0,d1,d2,d3,d4,d5,d6,d7⟩:=(show BlkIs _ w.heap.size 55 #[.int .i64 1,.int .u64 (wd m 0:Nat),.int .u64 (wd m 1:Nat),.int .u64 (wd m 2:Nat),.int .u64 (wd m 3:Nat),.slice A 0 c,.int .i64 lo,.int .i64 hi]from HH.out.2).eight;go_wp2;go_ret;exact⟨rfl,HH.out.1⟩
theorem xzve (T:Tree)(h:T.ok=true)(hn:T.nodes<=1048576):PlacesIs T:=by
 induction T using Tree.ind with
 |h k m l lo hi ih=>
  have hop:=xzph h;have hkind:=xzdy hop.2;simp only [Tree.nodes]at hn;have hl:=xzfm l
  have IH:∀ t∈l,PlacesIs t:=fun t ht=>by
   obtain⟨j,hj,rfl⟩:=List.getElem_of_mem ht;exact ih _ ht (hop.1 _ ht) (Nat.le_trans (xzfn l j hj) (by omega))
  rcases hkind with⟨rfl,hl⟩|⟨rfl,hl⟩|⟨rfl,hl⟩|⟨rfl,hl⟩|⟨rfl,hl,hlo⟩
  ·exact xzht 0 (.inl rfl) m l lo hi (by omega) hop.1 IH
  ·obtain rfl:=List.eq_nil_of_length_eq_zero hl
   exact xzrm m lo hi
  ·exact xzht 2 (.inr (.inl rfl)) m l lo hi (by omega) hop.1 IH
  ·exact xzht 3 (.inr (.inr rfl)) m l lo hi (by omega) hop.1 IH
  ·exact xzvd 4 rfl m l lo hi (by omega) hop.1 (by unfold copiesI;split<;>omega) IH
mutual
theorem xzjj:∀ t:Tree,t.deepN<=t.nodes
 | .node k m l lo hi=>by have:=deepL_nodes8 l;simp [Tree.deepN,Tree.nodes];omega
theorem deepL_nodes8:∀ l:List Tree,deepL l<=nodesL l
 |[]=>Nat.le_refl _
 |t::r=>by have:=xzjj t;have:=deepL_nodes8 r;simp [deepL,nodesL];omega
end
def placesZ (T:Tree):Int:=if T.mayN then T.places else -1
set_option maxRecDepth 20000 in
set_option maxHeartbeats 2000000 in
theorem xzvf (T:Tree)(v:Value)(w:World)(hat:T.At w v)(hn:T.nodes<=1048576):Calls Tryz.prog 59 #[v] w fun e w'=>e=.returned (.int .i64 (placesZ T))/\Below w.heap.size w w':=by
 obtain⟨A,n,c,rfl⟩:∃ A n c,v=reV T.kind T.set A n c T.lo T.hi:=by
  cases T with
  |node k m l lo hi=>
   obtain⟨A,c,e,_,_⟩:=hat.open;exact⟨A,l.length,c,e⟩
 have hb1:Below w.heap.size w (w.alloc (.cells (reL T.kind T.set A n c T.lo T.hi).toArray 55)):=(Below.refl _ _).alloc (Nat.le_refl _) _;have hbx:=BlkIs.new w 55 (reL T.kind T.set A n c T.lo T.hi).toArray;have H0:=zd (And.intro hb1 hbx);have HM:=zd (may_any T _ _ (hat.step hb1) (Nat.le_trans (xzjj T) (by omega)));have HP:=zd (fun(hm:T.mayN=true) (u:World) (hu:Below w.heap.size w u)=>xzve T (by unfold Tree.mayN at hm;simp only [Bool.and_eq_true]at hm;exact hm.2.2) hn _ u (hat.step hu));obtain⟨R,hR⟩:∃ R,R=placesZ T:=⟨_,rfl⟩;rw [<-hR];unfold placesZ at hR;have HR:=zd hR;obtain⟨d0,d1,d2,d3,d4,d5,d6,d7⟩:=(show BlkIs _ w.heap.size 55 #[.int .i64 T.kind,.int .u64 (wd T.set 0:Nat),.int .u64 (wd T.set 1:Nat),.int .u64 (wd T.set 2:Nat),.int .u64 (wd T.set 3:Nat),.slice A n c,.int .i64 T.lo,.int .i64 T.hi]from hbx).eight;clear hat hb1 hbx hn hR;unfold reV reL at*
 cases hm:T.mayN with
 |false=>
  rw [hm]at HM;have HF:=zd (show R= -1 by rw [HR.out,hm];rfl);clear HP HR hm
  go_enter Tryz.func59,Tryz.ntmps59
  go_wp2_with fail
  go_at_call 78
  refine HM.out.mono ?_;rintro e u ⟨rfl,hb⟩;have HU:=zd (H0.out.1.trans (hb.mono H0.out.1.size));clear hb;go_wp2;go_ret;exact⟨by rw [HF.out];rfl,HU.out⟩
 |true=>
  rw [hm]at HM;have HF:=zd (show R=T.places by rw [HR.out,hm];rfl);have HP2:=zd (HP.out hm);clear HP HR hm
  go_enter Tryz.func59,Tryz.ntmps59
  go_wp2_with fail
  go_at_call 78
  refine HM.out.mono ?_;rintro e u ⟨rfl,hb⟩;have HU:=zd (And.intro (H0.out.1.trans (hb.mono H0.out.1.size)) (H0.out.2.step hb));clear hb d0 d1 d2 d3 d4 d5 d6 d7;obtain⟨d0,d1,d2,d3,d4,d5,d6,d7⟩:=HU.out.2.eight
  go_wp2_with fail
  go_at_call 79
  refine(HP2.out _ HU.out.1).mono ?_;rintro e u2 ⟨rfl,hb⟩;have HV:=zd (HU.out.1.trans (hb.mono HU.out.1.size));clear hb;go_wp2;go_ret;exact⟨by rw [HF.out];rfl,HV.out⟩
end
section
open Go.RowKit
theorem xzhu {n:Int}:∀ {a:Int} {l:List Int},risesB n a l=true->∀ x∈l,a<x/\x<n
 |_,[],_,x,hx=>by simp at hx
 |a,p::r,h,x,hx=>by
  simp only [risesB,Bool.and_eq_true,decide_eq_true_eq]at h
  rcases List.mem_cons.1 hx with rfl|hx
  ·exact h.1
  ·have:=xzhu h.2 x hx
   omega
theorem xzmf {n:Int}:∀ {a:Int} {l:List Int},risesB n a l=true->a<=n - 1->(l.length:Int)<=n - 1 - a
 |a,[],_,ha=>by simp;omega
 |a,p::r,h,ha=>by
  simp only [risesB,Bool.and_eq_true,decide_eq_true_eq]at h;have:=xzmf h.2 (by omega);simp only [List.length_cons];omega
theorem xzay {n:Nat}{l:List Int}(h:risesB n (-1) l=true):l.length<=n:=by
 have:=xzmf h (by omega);omega
theorem xzbz {n n':Int}(hn:n<=n'):∀ {a a':Int} {l:List Int},a'<=a->risesB n a l=true->risesB n' a' l=true
 |_,_,[],_,_=>by simp [risesB]
 |a,a',p::r,ha,h=>by
  simp only [risesB,Bool.and_eq_true,decide_eq_true_eq]at h ⊢;exact⟨⟨by omega,by omega⟩,xzbz hn (Int.le_refl _) h.2⟩
theorem xzmg {n:Int}{b:List Int}:∀ {c:Int} {a:List Int},risesB n c a=true->risesB n (a.getLastD c) b=true->risesB n c (a++b)=true
 |_,[],_,h=>by simpa using h
 |c,p::r,h,hb=>by
  simp only [risesB,Bool.and_eq_true,decide_eq_true_eq,List.cons_append]at h ⊢;refine⟨h.1,xzmg h.2 ?_⟩;rw [List.getLastD_cons]at hb;exact hb
def mergeN:Nat->List Int->List Int->List Int
 |0,a,b=>a++b
 |_+1,[],b=>b
 |_+1,x::a,[]=>x::a
 |n+1,x::a,y::b=>if x<y then x::mergeN n a (y::b)else if y<x then y::mergeN n (x::a) b else x::mergeN n a b
theorem xzvg (k:Nat)(b:List Int):mergeN k [] b=b:=by cases k<;>simp [mergeN]
theorem xzrn (k:Nat)(a:List Int):mergeN k a []=a:=by cases k<;>cases a<;>simp [mergeN]
theorem xzdj {n:Int}:∀ (k:Nat) (a b:List Int) (c:Int),risesB n c a=true->risesB n c b=true->a.length+b.length<=k->risesB n c (mergeN k a b)=true
 |0,a,b,c,ha,hb,hk=>by
  obtain rfl:=List.eq_nil_of_length_eq_zero (l:=a) (by omega)
  simpa [mergeN]using hb
 |k+1,[],b,c,ha,hb,hk=>by simpa [mergeN]using hb
 |k+1,x::a,[],c,ha,hb,hk=>by simpa [mergeN]using ha
 |k+1,x::a,y::b,c,ha,hb,hk=>by
  simp only [List.length_cons]at hk;simp only [risesB,Bool.and_eq_true,decide_eq_true_eq]at ha hb;unfold mergeN
  split
  ·rename_i h
   simp only [risesB,Bool.and_eq_true,decide_eq_true_eq];exact⟨ha.1,xzdj k _ _ _ ha.2 (by simp only [risesB,Bool.and_eq_true,decide_eq_true_eq];exact⟨⟨h,hb.1.2⟩,hb.2⟩) (by simp only [List.length_cons];omega)⟩
  ·split
   ·rename_i h h2
    simp only [risesB,Bool.and_eq_true,decide_eq_true_eq];exact⟨hb.1,xzdj k _ _ _ (by simp only [risesB,Bool.and_eq_true,decide_eq_true_eq];exact⟨⟨h2,ha.1.2⟩,ha.2⟩) hb.2 (by simp only [List.length_cons];omega)⟩
   ·rename_i h h2
    obtain rfl:x=y:=by omega
    simp only [risesB,Bool.and_eq_true,decide_eq_true_eq];exact⟨ha.1,xzdj k _ _ _ ha.2 hb.2 (by omega)⟩
def mergedL (a b:List Int):List Int:=if a=[]then b else if b=[]then a else if a.getLastD 0<b.headD 0 then a++b else mergeN (a.length+b.length) a b
theorem xzce {n:Int}{c:Int}{a b:List Int}(ha:risesB n c a=true)(hb:risesB n c b=true):risesB n c (mergedL a b)=true:=by
 unfold mergedL
 split
 ·exact hb
 ·split
  ·exact ha
  ·split
   ·rename_i h1 h2 h
    cases b with
    |nil=>exact absurd rfl h2
    |cons y b=>
     simp only [risesB,Bool.and_eq_true,decide_eq_true_eq]at hb;refine xzmg ha ?_;simp only [risesB,Bool.and_eq_true,decide_eq_true_eq]
     have e:a.getLastD c=a.getLastD 0:=by
      cases a with
      |nil=>exact absurd rfl h1
      |cons x a=>rw [List.getLastD_cons,List.getLastD_cons]
     rw [e];exact⟨⟨by simpa using h,hb.1.2⟩,hb.2⟩
   ·exact xzdj _ _ _ _ ha hb (Nat.le_refl _)
def shiftL (by':Int)(l:List Int):List Int:=l.map (· +by')
theorem xzhv {n:Int}(d:Int):∀ {c:Int} {l:List Int},risesB n c l=true->risesB (n+d) (c+d) (shiftL d l)=true
 |_,[],_=>by simp [shiftL,risesB]
 |c,p::r,h=>by
  simp only [risesB,Bool.and_eq_true,decide_eq_true_eq]at h;have:=xzhv d h.2;simp only [shiftL,List.map_cons,risesB,Bool.and_eq_true,decide_eq_true_eq]at this ⊢;exact⟨⟨by omega,by omega⟩,this⟩
theorem xzdv {n n':Int}{d:Int}(hd:0<=d)(hn:n+d<=n'){l:List Int}(h:risesB n (-1) l=true):risesB n' (-1) (shiftL d l)=true:=
 xzbz hn (by omega) (xzhv d h)
structure Prt where
 first:List Int
 ends:List Int
 empty:Bool
structure Mk where
 sets:List (Nat->Bool)
 follow:List (List Int)
def linkF:List (List Int)->List Int->List Int->List (List Int)
 |F,[],_=>F
 |F,e::r,row=>linkF (F.set e.toNat (mergedL (F.getD e.toNat []) row)) r row
def bothP (p q:Prt):Prt:=⟨if p.empty then mergedL p.first q.first else p.first,if q.empty then mergedL p.ends q.ends else q.ends,p.empty&&q.empty⟩
def inRowP (must:Int):Int->List Prt->List (List Int)->List (List Int)×Prt
 |_,[],F=>(F,⟨[],[],true⟩)
 |i,p::r,F=>
  let q:=inRowP must (i+1) r F
  (linkF q.1 p.ends q.2.first,{bothP p q.2 with empty:=(bothP p q.2).empty||decide (i>=must)})
def orP (a p:Prt):Prt:=⟨mergedL a.first p.first,mergedL a.ends p.ends,a.empty||p.empty⟩
def eitherP:Prt->List Prt->Prt
 |a,[]=>a
 |a,p::r=>eitherP (orP a p) r
def shiftP (d:Int)(p:Prt):Prt:=⟨shiftL d p.first,shiftL d p.ends,p.empty⟩
def copiedS (S:Mk)(i j:Nat):Mk:=⟨S.sets++(S.sets.drop i).take (j - i),S.follow++((S.follow.drop i).take (j - i)).map (shiftL ((S.sets.length:Int) - i))⟩
def copyN (p:Prt)(i j:Nat):Nat->Mk->List Prt->Mk×List Prt
 |0,S,l=>(S,l)
 |n+1,S,l=>copyN p i j n (copiedS S i j) (l++[shiftP ((S.sets.length:Int) - i) p])
def placeS (S:Mk)(m:Nat->Bool):Mk:=⟨S.sets++[m],S.follow++[[]]⟩
mutual
def partP:Tree->Mk->Mk×Prt
 | .node k m l lo hi,S=>
  if k=1 then(placeS S m,⟨[(S.sets.length:Int)],[(S.sets.length:Int)],false⟩)
  else if k=2 then
   let x:=partsP l S
   let y:=inRowP l.length 0 x.2 x.1.follow
   (⟨x.1.sets,y.1⟩,y.2)
  else if k=3 then
   let x:=partsP l S
   (x.1,eitherP ⟨[],[],false⟩ x.2)
  else if k=4 then
   if(copiesI lo hi).toNat=0 then(S,⟨[],[],true⟩)
   else
    let x:=partsP l S
    let c:=copyN (x.2.headD ⟨[],[],true⟩) S.sets.length x.1.sets.length ((copiesI lo hi).toNat - 1) x.1 [x.2.headD ⟨[],[],true⟩]
    let z:=c.2.getLastD ⟨[],[],true⟩
    let F:=if hi= -1 then linkF c.1.follow z.ends z.first else c.1.follow
    let y:=inRowP lo 0 c.2 F
    (⟨c.1.sets,y.1⟩,y.2)
  else(S,⟨[],[],true⟩)
def partsP:List Tree->Mk->Mk×List Prt
 |[],S=>(S,[])
 |t::r,S=>
  let x:=partP t S
  let y:=partsP r x.1
  (y.1,x.2::y.2)
end
def OkR (n:Nat)(F:List (List Int)):Prop:=∀ r∈F,risesB n (-1) r=true
def Prt.Ok (n:Nat)(p:Prt):Prop:=risesB n (-1) p.first=true/\risesB n (-1) p.ends=true
def Mk.Ok (S:Mk):Prop:=S.follow.length=S.sets.length/\OkR S.sets.length S.follow
theorem Prt.Ok.nil (n:Nat)(e:Bool):Prt.Ok n ⟨[],[],e⟩:=⟨rfl,rfl⟩
theorem Prt.Ok.mono {n n':Nat}{p:Prt}(h:p.Ok n)(hn:n<=n'):p.Ok n':=⟨xzbz (by omega) (Int.le_refl _) h.1,xzbz (by omega) (Int.le_refl _) h.2⟩
theorem OkR.mono {n n':Nat}{F:List (List Int)}(h:OkR n F)(hn:n<=n'):OkR n' F:=fun r hr=>xzbz (by omega) (Int.le_refl _) (h r hr)
theorem OkR.getD {n:Nat}{F:List (List Int)}(h:OkR n F)(i:Nat):risesB n (-1) (F.getD i [])=true:=by
 rw [List.getD_eq_getElem?_getD]
 cases e:F[i]? with
 |none=>rfl
 |some r=>exact h r (List.mem_of_getElem? e)
theorem OkR.set {n:Nat}{F:List (List Int)}(h:OkR n F)(i:Nat){r:List Int}(hr:risesB n (-1) r=true):OkR n (F.set i r):=fun x hx=>by
 rcases List.mem_or_eq_of_mem_set hx with hx|rfl
 ·exact h x hx
 ·exact hr
theorem xzey:∀ (e:List Int) (F:List (List Int)) (row:List Int),(linkF F e row).length=F.length
 |[],F,row=>rfl
 |x::e,F,row=>by unfold linkF;rw [xzey e];simp
theorem xzhw {n:Nat}:∀ (e:List Int) {F:List (List Int)} {row:List Int},OkR n F->risesB n (-1) row=true->OkR n (linkF F e row)
 |[],F,row,h,_=>h
 |x::e,F,row,h,hr=>by
  unfold linkF;exact xzhw e (h.set _ (xzce (h.getD _) hr)) hr
theorem xzmh (row:List Int)(x:Int):∀ (e:List Int) (F:List (List Int)),linkF F (e++[x]) row=(linkF F e row).set x.toNat (mergedL ((linkF F e row).getD x.toNat []) row)
 |[],F=>rfl
 |y::e,F=>by simp only [List.cons_append,linkF];exact xzmh row x e _
theorem yzeq {n:Nat}{p q:Prt}(hp:p.Ok n)(hq:q.Ok n):(bothP p q).Ok n:=by
 unfold bothP;refine⟨?_,?_⟩
 ·dsimp only
  split
  ·exact xzce hp.1 hq.1
  ·exact hp.1
 ·dsimp only
  split
  ·exact xzce hp.2 hq.2
  ·exact hq.2
theorem xzgn {n:Nat}(must:Int):∀ (l:List Prt) (i:Int) (F:List (List Int)),OkR n F->(∀ p∈l,p.Ok n)->OkR n (inRowP must i l F).1/\(inRowP must i l F).2.Ok n/\(inRowP must i l F).1.length=F.length
 |[],i,F,hF,_=>⟨hF,Prt.Ok.nil _ _,rfl⟩
 |p::r,i,F,hF,hl=>by
  obtain⟨h1,h2,h3⟩:=xzgn must r (i+1) F hF fun q hq=>hl q (by simp [hq])
  have hp:=hl p (by simp);have hb:=yzeq hp h2;unfold inRowP;refine⟨xzhw _ h1 h2.1,⟨hb.1,hb.2⟩,?_⟩
  dsimp only
  rw [xzey,h3]
theorem orP_ok {n:Nat}{p q:Prt}(hp:p.Ok n)(hq:q.Ok n):(orP p q).Ok n:=⟨xzce hp.1 hq.1,xzce hp.2 hq.2⟩
theorem xzhx {n:Nat}:∀ (l:List Prt) {a:Prt},a.Ok n->(∀ p∈l,p.Ok n)->(eitherP a l).Ok n
 |[],_,h,_=>h
 |p::r,_,h,hl=>xzhx r (orP_ok h (hl p (by simp))) fun q hq=>hl q (by simp [hq])
theorem xzhy (p:Prt):∀ (l:List Prt) (a:Prt),eitherP a (l++[p])=orP (eitherP a l) p
 |[],_=>rfl
 |q::l,a=>by simp only [List.cons_append,eitherP];exact xzhy p l _
theorem yzah {n:Nat}{d:Int}{n':Nat}{p:Prt}(hd:0<=d)(hn:(n:Int)+d<=n')(h:p.Ok n):(shiftP d p).Ok n':=⟨xzdv hd hn h.1,xzdv hd hn h.2⟩
mutual
def Tree.plN:Tree->Nat
 | .node k _ l lo hi=>((if k=1 then 1 else 0)+sumN l)*(if k=4 then(copiesI lo hi).toNat else 1)
def sumN:List Tree->Nat
 |[]=>0
 |t::r=>t.plN+sumN r
end
def okK (k:Int)(l:List Tree):Prop:=(k=1->l=[])/\(k=4->l.length=1)/\(k≠1->k≠2->k≠3->k≠4->l=[])
theorem xzvh {S:Mk}{i j:Nat}(h:S.Ok)(hij:i<=j)(hj:j<=S.sets.length)(hrow:∀ r∈(S.follow.drop i).take (j - i),risesB j (-1) r=true):
 (copiedS S i j).Ok/\(copiedS S i j).sets.length=S.sets.length+(j - i):=by
 have e1:((S.sets.drop i).take (j - i)).length=j - i:=by simp;omega
 have e2:((S.follow.drop i).take (j - i)).length=j - i:=by simp [h.1];omega
 refine⟨⟨?_,?_⟩,?_⟩
 ·unfold copiedS
  simp only [List.length_append,List.length_map,e1,e2,h.1]
 ·unfold copiedS
  simp only [List.length_append,e1];intro r hr
  rcases List.mem_append.1 hr with hr|hr
  ·exact xzbz (by omega) (Int.le_refl _) (h.2 r hr)
  ·obtain⟨q,hq,rfl⟩:=List.mem_map.1 hr
   exact xzdv (by omega) (by omega) (hrow q hq)
 ·unfold copiedS
  simp only [List.length_append,e1]
theorem xznw {S:Mk}{i j:Nat}(h:S.follow.length=S.sets.length)(hj:j<=S.sets.length):((copiedS S i j).follow.drop i).take (j - i)=(S.follow.drop i).take (j - i):=by
 unfold copiedS;simp only
 by_cases hij:i<=j
 ·rw [List.drop_append_of_le_length (by omega),List.take_append_of_le_length (by simp;omega)]
 ·rw [show j - i=0 by omega];simp
theorem xzvi {p:Prt}{i j:Nat}(hij:i<=j)(hp:p.Ok j):∀ (n:Nat) (S:Mk) (l:List Prt),S.Ok->j<=S.sets.length->(∀ r∈(S.follow.drop i).take (j - i),risesB j (-1) r=true)->(∀ q∈l,q.Ok S.sets.length)->
 (copyN p i j n S l).1.Ok/\(copyN p i j n S l).1.sets.length=S.sets.length+n*(j - i)/\(copyN p i j n S l).2.length=l.length+n/\∀ q∈(copyN p i j n S l).2,q.Ok (copyN p i j n S l).1.sets.length
 |0,S,l,h,hj,hrow,hl=>⟨h,by simp [copyN],by simp [copyN],hl⟩
 |n+1,S,l,h,hj,hrow,hl=>by
  obtain⟨h1,h2⟩:=xzvh h hij hj hrow;unfold copyN
  obtain⟨k1,k2,k3,k4⟩:=xzvi hij hp n (copiedS S i j) (l++[shiftP ((S.sets.length:Int) - i) p]) h1 (by omega) (by rw [xznw h.1 hj];exact hrow) (fun q hq=>by
   rcases List.mem_append.1 hq with hq|hq
   ·exact(hl q hq).mono (by omega)
   ·obtain rfl:=List.mem_singleton.1 hq
    exact yzah (by omega) (by omega) hp)
  refine⟨k1,by rw [k2,h2,Nat.succ_mul];omega,by rw [k3];simp;omega,k4⟩
mutual
def Tree.okT:Tree->Prop
 | .node k _ l _ _=>okK k l/\okTs l
def okTs:List Tree->Prop
 |[]=>True
 |t::r=>t.okT/\okTs r
end
mutual
theorem xzkl:∀ (T:Tree) (S:Mk),T.okT->S.Ok->(partP T S).1.Ok/\(partP T S).2.Ok (partP T S).1.sets.length/\(partP T S).1.sets.length=S.sets.length+T.plN
 | .node k m l lo hi,S,hT,hS=>by
  unfold Tree.okT at hT;obtain⟨⟨hk1,hk4,hk0⟩,hTl⟩:=hT;unfold partP Tree.plN
  split
  ·rename_i h
   subst h;obtain rfl:=hk1 rfl;refine⟨⟨by simp [placeS,hS.1],?_⟩,?_,by simp [placeS,sumN]⟩
   ·intro r hr
    simp only [placeS,List.mem_append,List.mem_singleton]at hr
    rcases hr with hr|rfl
    ·exact xzbz (by simp [placeS];omega) (Int.le_refl _) (hS.2 r hr)
    ·rfl
   ·have:risesB ((placeS S m).sets.length:Int) (-1) [(S.sets.length:Int)]=true:=by simp [risesB,placeS];omega
    exact⟨this,this⟩
  ·rename_i h1
   obtain⟨g1,g2,g3,g4⟩:=partsP_ok l S hTl hS
   split
   ·rename_i h2
    obtain⟨y1,y2,y3⟩:=xzgn l.length (partsP l S).2 0 (partsP l S).1.follow g1.2 g2;rw [if_neg (by omega)];exact⟨⟨y3.trans g1.1,y1⟩,y2,by simpa using g3⟩
   ·split
    ·rw [if_neg (by omega)]
     exact⟨g1,xzhx _ (Prt.Ok.nil _ _) g2,by simpa using g3⟩
    ·split
     ·rename_i h2 h3 h4
      split
      ·rename_i h5
       rw [h5];exact⟨hS,Prt.Ok.nil _ _,by simp⟩
      ·rename_i h5
       have h0:(partsP l S).2.length=1:=g4.trans (hk4 h4);obtain⟨p,hp⟩:∃ p,(partsP l S).2=[p]:=List.length_eq_one_iff.1 h0
       dsimp only
       rw [hp]at g2 ⊢;have hpo:=g2 p (by simp);generalize(partsP l S).1=S1 at*;obtain⟨k1,k2,k3,k4⟩:=xzvi (p:=p) (i:=S.sets.length) (j:=S1.sets.length) (by omega) hpo ((copiesI lo hi).toNat - 1) S1 [p] g1 (Nat.le_refl _) (fun r hr=>g1.2 r (List.mem_of_mem_drop (List.mem_of_mem_take hr))) g2;simp only [List.headD_cons];generalize hc:copyN p S.sets.length S1.sets.length ((copiesI lo hi).toNat - 1) S1 [p]=c at*
       have hz:(c.2.getLastD ⟨[],[],true⟩).Ok c.1.sets.length:=by
        cases hcl:c.2.getLast? with
        |none=>rw [List.getLastD_eq_getLast?,hcl];exact Prt.Ok.nil _ _
        |some z=>rw [List.getLastD_eq_getLast?,hcl];exact k4 z (List.mem_of_getLast? hcl)
       have hF:OkR c.1.sets.length (if hi= -1 then linkF c.1.follow (c.2.getLastD ⟨[],[],true⟩).ends (c.2.getLastD ⟨[],[],true⟩).first else c.1.follow)/\
        (if hi= -1 then linkF c.1.follow (c.2.getLastD ⟨[],[],true⟩).ends (c.2.getLastD ⟨[],[],true⟩).first else c.1.follow).length=c.1.follow.length:=by
        split
        ·exact⟨xzhw _ k1.2 hz.1,xzey _ _ _⟩
        ·exact⟨k1.2,rfl⟩
       obtain⟨y1,y2,y3⟩:=xzgn lo c.2 0 _ hF.1 k4;refine⟨⟨by dsimp only;rw [y3,hF.2,k1.1],y1⟩,y2,?_⟩;rw [k2,g3,Nat.add_sub_cancel_left,Nat.zero_add];obtain⟨cc,hcc⟩:∃ cc,(copiesI lo hi).toNat=cc+1:=⟨(copiesI lo hi).toNat - 1,by omega⟩;rw [hcc,Nat.add_sub_cancel,Nat.mul_succ,Nat.mul_comm];omega
     ·rename_i h2 h3 h4
      obtain rfl:=hk0 h1 h2 h3 h4;exact⟨hS,Prt.Ok.nil _ _,by simp [sumN]⟩
theorem partsP_ok:∀ (l:List Tree) (S:Mk),okTs l->S.Ok->(partsP l S).1.Ok/\(∀ p∈(partsP l S).2,p.Ok (partsP l S).1.sets.length)/\(partsP l S).1.sets.length=S.sets.length+sumN l/\(partsP l S).2.length=l.length
 |[],S,_,hS=>⟨hS,fun p hp=>by simp [partsP]at hp,by simp [partsP,sumN],rfl⟩
 |t::r,S,hT,hS=>by
  unfold okTs at hT;obtain⟨h1,h2,h3⟩:=xzkl t S hT.1 hS;obtain⟨k1,k2,k3,k4⟩:=partsP_ok r (partP t S).1 hT.2 h1;unfold partsP;refine⟨k1,fun p hp=>?_,?_,by simp [k4]⟩
  ·rcases List.mem_cons.1 hp with rfl|hp
   ·exact h2.mono (by rw [k3];omega)
   ·exact k2 p hp
  ·dsimp only
   rw [k3,h3];simp only [sumN];omega
end
end
end Go.Proofs.YtdjpphjpnkfeiaaGreatDoor
