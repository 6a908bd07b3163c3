/-
 A COPY OF TREES WHILE IT IS MADE: what lies where, of no program: the rows that are ahead hold the old nodes; the nodes behind hold new Subs. No condition.
-/
import Derived.Maps.OwnIn
import Derived.Test.YtgjfhbpmahgfcaaDoorQG07
namespace Go.Proofs.YtgjfhbpmahgfcaaDoor
section
open Go.RowKit
def NodePend (w W:World)(t:Tree)(b o:Nat):Prop:=∃ cs:List Value,Tree.At w t (.agg cs.toArray)/\cs.length=8/\W.rangeAt b o cs
def Nd (F:List (Nat×List Tree))(W:World)(t:Tree)(b o:Nat):Prop:=
 ∃ A c,W.rangeAt b o (reL t.kind t.set A t.sub.length c t.lo t.hi)/\t.sub.length<=c/\c<=9223372036854775807/\(t.sub≠[]->∃ b',A=some ⟨b',0,none⟩/\(b',t.sub)∈F)
def InSt (st:List Row)(t:Tree)(b i:Nat):Prop:=∃ r∈st,r.2.1=b/\∃ (j:Nat) (hj:j<r.1.length),r.1[j]=t/\r.2.2+j*8=i*8
def Fresh (w W:World)(b:Nat):Prop:=w.heap.size<=b/\∃ cs,BlkIs W b 34 cs
structure CloneF (w:World)(F:List (Nat×List Tree))(st:List Row)(W:World):Prop where
 low:Below w.heap.size w W
 rows:∀ r∈st,r.1≠[]->Fresh w W r.2.1/\(∃ q,r.2.2=q*8)/\∀ (j:Nat) (h:j<r.1.length),NodePend w W r.1[j] r.2.1 (r.2.2+j*8)
 apart:st.Pairwise fun r q=>r.1≠[]->q.1≠[]->r.2.1≠q.2.1
 all:∀ p∈F,Fresh w W p.1/\∀ (i:Nat) (h:i<p.2.length),InSt st p.2[i] p.1 i\/(Nd F W p.2[i] p.1 (i*8)/\∀ r∈st,r.1≠[]->r.2.1=p.1->i*8<r.2.2)
def CloneJ (w:World)(g:Nat)(l0:List Tree)(st:List Row)(W:World):Prop:=∃ F,(l0≠[]->(g,l0)∈F)/\CloneF w F st W
theorem Fresh.keep {w W W':World}{b:Nat}(h:Fresh w W b)(hk:∀ k cs,BlkIs W k 34 cs->BlkIs W' k 34 cs):Fresh w W' b:=by
 obtain⟨h1,cs,h2⟩:=h;exact⟨h1,cs,hk _ _ h2⟩
theorem Fresh.range {w W W':World}{b o:Nat}{ls:List Value}(h:Fresh w W b)(hk:∀ k cs,BlkIs W k 34 cs->BlkIs W' k 34 cs)(hr:W.rangeAt b o ls):W'.rangeAt b o ls:=fun j v hv=>by
 obtain⟨_,cs,h2⟩:=h;rw [(hk _ _ h2).cell,<-h2.cell];exact hr j v hv
theorem CloneF.keep {w W W':World}{F:List (Nat×List Tree)}{st:List Row}(h:CloneF w F st W)(hb:Below w.heap.size W W')(hk:∀ k cs,BlkIs W k 34 cs->BlkIs W' k 34 cs):CloneF w F st W' where
 low:=h.low.trans hb
 rows:=fun r hr hne=>by
  obtain⟨h1,h2,h3⟩:=h.rows r hr hne;refine⟨h1.keep hk,h2,fun j hj=>?_⟩;obtain⟨cs,g1,g2,g3⟩:=h3 j hj;exact⟨cs,g1,g2,h1.range hk g3⟩
 apart:=h.apart
 all:=fun p hp=>by
  obtain⟨h1,h2⟩:=h.all p hp;refine⟨h1.keep hk,fun i hi=>(h2 i hi).imp id fun⟨⟨A,c,g1,g2,g3,g4⟩,g5⟩=>⟨⟨A,c,h1.range hk g1,g2,g3,g4⟩,g5⟩⟩
theorem CloneF.pop {w W:World}{F:List (Nat×List Tree)}{b o:Nat}{st:List Row}(h:CloneF w F (([],b,o)::st) W):CloneF w F st W where
 low:=h.low
 rows:=fun r hr hne=>h.rows r (by simp [hr]) hne
 apart:=(List.pairwise_cons.1 h.apart).2
 all:=fun p hp=>by
  obtain⟨h1,h2⟩:=h.all p hp;refine⟨h1,fun i hi=>(h2 i hi).imp ?_ fun⟨g1,g2⟩=>⟨g1,fun r hr hne=>g2 r (by simp [hr]) hne⟩⟩;rintro⟨r,hr,g1,j,hj,g2⟩
  rcases List.mem_cons.1 hr with rfl|hr
  ·exact absurd hj (by simp)
  ·exact⟨r,hr,g1,j,hj,g2⟩
theorem CloneF.done {w W V:World}{F:List (Nat×List Tree)}(h:CloneF w F [] W)(hV:∀ k,w.heap.size<=k->V.heap[k]? =W.heap[k]?):∀ (t:Tree) (b o:Nat),w.heap.size<=b->Nd F W t b o->∃ cs:List Value,Tree.At V t (.agg cs.toArray)/\cs.length=8/\V.rangeAt b o cs:=by
 intro t
 induction t using Tree.ind with
 |h k m l lo hi ih=>
  rintro b o hb ⟨A,c,h1,h2,h3,h4⟩;refine⟨_,?_,rfl,fun j v hv=>(World.cell?_of_block (w:=W) (hV b hb)).trans (h1 j v hv)⟩;unfold Tree.At;refine⟨A,c,rfl,⟨h2,h3⟩,fun hne=>?_⟩;obtain⟨b',rfl,h5⟩:=h4 hne;refine⟨b',0,rfl,AllAt.mk l b' 0 fun i hi=>?_⟩;rw [Nat.zero_add]
  rcases(h.all _ h5).2 i hi with⟨r,hr,_⟩|⟨g,_⟩
  ·cases hr
  ·exact ih _ (List.getElem_mem hi) _ _ (h.all _ h5).1.1 g
theorem CloneJ.done {w W V:World}{g:Nat}{l0:List Tree}(h:CloneJ w g l0 [] W)(hne:l0≠[])(hV:∀ k,w.heap.size<=k->V.heap[k]? =W.heap[k]?):AllAt V l0 g 0:=by
 obtain⟨F,h1,h2⟩:=h
 refine AllAt.mk l0 g 0 fun i hi=>?_
 rw [Nat.zero_add]
 rcases(h2.all _ (h1 hne)).2 i hi with⟨r,hr,_⟩|⟨g,_⟩
 ·cases hr
 ·exact h2.done hV _ _ _ (h2.all _ (h1 hne)).1.1 g
end
section
open Go.RowKit
attribute [local go_sem] Oper.semAt_some
def okS:List Row->Bool
 |[]=>true
 |r::st=>allOk r.1&&okS st
theorem xzef (t:Tree)(s:List Tree)(b o b' o' o2:Nat)(st:List Row):okS ((t::s,b,o)::st)=(okNode t.kind t.set t.sub.length t.lo t.hi&&okS ((t.sub,b',o')::(s,b,o2)::st)):=by
 cases t with
 |node k m l lo hi=>
  simp only [okS,allOk,Tree.ok,Tree.sub,Tree.kind,Tree.set,Tree.lo,Tree.hi]
  cases okNode k m l.length lo hi<;>cases allOk l<;>cases allOk s<;>cases okS st<;>rfl
theorem xzhb (x:Nat)(h:x<=300):wrap64 ((x:Int)+1)=(x:Int)+1/\IntKind.i64.wrap ((x:Int)+1)=(x:Int)+1:=by
 constructor
 ·unfold wrap64;omega
 ·rw [IntKind.wrap_i64];omega
def Tree.mayN (T:Tree):Bool:=decide (T.nodes<=300)&&(decide (T.deepN<=30)&&T.ok)
def MayJ (w:World)(T:Tree)(st:List Row)(W:World):Prop:=RowsIn w st W/\∃ x:Nat,x+nodesS st=T.nodes/\x<=300/\(decide (deepS st<=30)&&okS st)=(decide (T.deepN<=30)&&T.ok)/\
 BlkIs W (w.heap.size+1+1+1) 3 #[.int .i64 (x:Nat)]/\BlkIs W (w.heap.size+1) 4 #[.bool false]
def MayX (w:World)(T:Tree)(W:World):Prop:=Below w.heap.size w W/\T.mayN=false/\BlkIs W (w.heap.size+1) 4 #[.bool false]
theorem xzam {W W':World}(h:Below W.heap.size W W'):KeepsOthers W W':=⟨h.size,fun k _ hk _=>(h.block k (Array.getElem?_eq_some_iff.1 hk).1).trans hk⟩
theorem xzhc {W W':World}(h:Below W.heap.size W W'):KeepsRows W W':=⟨h.size,fun k _ hk=>(h.block k (Array.getElem?_eq_some_iff.1 hk).1).trans hk⟩
theorem xzex {w:World}{g:Nat}{t:TypeId}{x:Bool}(h:BlkIs w g t #[.bool x]):(loadVar 4 ⟨g,0,none⟩).run Tryd.prog w=.ok (.bool x) w:=by
 have c:=h.cell 0
 simp at c
 go_simp
theorem xzbc {W:World}{l:Nat}{o:Obj}(o':Obj){g:Nat}{t:TypeId}{cs:Array Value}(h:BlkIs W g t cs)(hl:W.heap[l]? =some o)(ho:o.isCells=false):BlkIs (W.putObj l o') g t cs:=
 (World.putObj_heap_other (fun e=>by subst e;unfold BlkIs at h;rw [h]at hl;cases hl;cases ho)).trans h
theorem xzfq {w:World}{T:Tree}{cs:List Value}(hT:T.At w (.agg cs.toArray))(h8:cs.length=8):
 RowsIn w [([T],w.heap.size+1+1,0)] ((((w.alloc (.cells cs.toArray 34)).alloc (.cells #[.bool false] 4)).alloc (.cells cs.toArray 34)).alloc (.cells #[.int .i64 0] 3))/\
  BlkIs ((((w.alloc (.cells cs.toArray 34)).alloc (.cells #[.bool false] 4)).alloc (.cells cs.toArray 34)).alloc (.cells #[.int .i64 0] 3)) (w.heap.size+1+1+1) 3 #[.int .i64 0]/\
  BlkIs ((((w.alloc (.cells cs.toArray 34)).alloc (.cells #[.bool false] 4)).alloc (.cells cs.toArray 34)).alloc (.cells #[.int .i64 0] 3)) (w.heap.size+1) 4 #[.bool false]/\
  ((((w.alloc (.cells cs.toArray 34)).alloc (.cells #[.bool false] 4)).alloc (.cells cs.toArray 34)).alloc (.cells #[.int .i64 0] 3)).heap.size=w.heap.size+4:=by
 have h0:=((BlkIs.new (w.alloc (.cells cs.toArray 34)) 4 #[.bool false]).alloc (.cells cs.toArray 34)).alloc (.cells #[.int .i64 0] 3);have h1:=(BlkIs.new ((w.alloc (.cells cs.toArray 34)).alloc (.cells #[.bool false] 4)) 34 cs.toArray).alloc (.cells #[.int .i64 0] 3);have h2:=BlkIs.new (((w.alloc (.cells cs.toArray 34)).alloc (.cells #[.bool false] 4)).alloc (.cells cs.toArray 34)) 3 #[.int .i64 0];simp only [World.size_alloc]at h0 h1 h2;refine⟨RowsIn.start hT h8 (((((Below.refl _ _).alloc (Nat.le_refl _) _).alloc (by simp) _).alloc (by simp;omega) _).alloc (by simp;omega) _) h1,h2,h0,by simp⟩
set_option maxRecDepth 100000 in
set_option maxHeartbeats 2000000 in
theorem xzhd (T:Tree)(v:Value)(w:World)(hat:T.At w v)(hd:T.deepN<=1099511627776):
 Calls Tryd.prog 37 #[v] w fun e w'=>e=.returned (.bool T.mayN)/\Below w.heap.size w w':=by
 cases T with
 |node k m l lo hi=>
 obtain⟨A,c,rfl,_,_⟩:=hat.open;have HAT:=zd hat;clear hat;unfold reV reL at*;refine(callsIn_wide (n:=3)).1 ?_;refine callsIn_of_wp_marks Tryd.func37 rfl trivial ?_ rfl;simp only [Tryd.ntmps37,List.size_toArray,List.length_cons,List.length_nil,Nat.reduceAdd,Nat.reduceSub,Array.replicate_succ,Array.replicate_zero,List.push_toArray,List.append_toArray,List.nil_append,List.cons_append];refine wpIn_wide.2 ?_;go_wp2;have hs:=xzfq (cs:=reL k m A l.length c lo hi) (by unfold reL;exact HAT.out) rfl;unfold reL at hs;generalize(((w.alloc _).alloc _).alloc _).alloc _=W2 at*;have HS:=zd hs;have hsz:=hs.2.2.2;clear hs;refine(wpIn_wide (n:=3)).1 ?_
 refine xzfo 3 (by omega) 1099511627776 (Nat.le_refl _) (.slice (some ⟨w.heap.size+1+1,0,none⟩) 1 1) rfl (MayJ w (.node k m l lo hi)) (fun _=>MayX w (.node k m l lo hi)) ?hJ ?hIx ?pop
  [Tree.node k m l lo hi] (w.heap.size+1+1) 0 ⟨_,_,rfl,Nat.le_refl _,by omega,fun _=>rfl⟩ (by simpa [deepL]using hd) ?start
  (fun b o d=>{tmps:=#[.agg #[.int .i64 k,.int .u64 (wd m 0:Nat),.int .u64 (wd m 1:Nat),.int .u64 (wd m 2:Nat),.int .u64 (wd m 3:Nat),.slice A l.length c,.int .i64 lo,.int .i64 hi],.pointer (some ⟨w.heap.size,0,none⟩),.pointer (some ⟨w.heap.size+1,0,none⟩),
   .slice (some ⟨w.heap.size+1+1,0,none⟩) 1 1,.pointer (some ⟨w.heap.size+1+1+1,0,none⟩),.pointer (some ⟨b,o,none⟩),.int .i64 ((d:Int)+1),.agg #[.int .i64 k,.int .u64 (wd m 0:Nat),.int .u64 (wd m 1:Nat),.int .u64 (wd m 2:Nat),.int .u64 (wd m 3:Nat),.slice A l.length c,.int .i64 lo,.int .i64 hi],
   .slice (some ⟨w.heap.size+1+1,0,none⟩) 1 1,.slice (some ⟨w.heap.size+1+1,0,none⟩) 1 1,.func (.func 48) #[.slice (some ⟨w.heap.size+1+1,0,none⟩) 1 1] #[],.pointer (some ⟨b,o,none⟩),.int .i64 ((d:Int)+1),undef,undef,undef,undef,undef,undef,undef,undef,undef,undef,undef,undef,undef,undef,undef],defers:=[]})
  ?assign ?body ?done ?stop
 case hJ=>
  rintro st X Y ⟨h1,x,h2,h3,h4,h5,h6⟩ hl;exact⟨h1.loose hl (by omega),x,h2,h3,h4,hl.blk h5 (by decide),hl.blk h6 (by decide)⟩
 case hIx=>
  rintro c X Y ⟨h1,h2,h3⟩ hl;exact⟨hl.below h1 (by omega) h1.size,h2,hl.blk h3 (by decide)⟩
 case pop=>
  rintro b o st X ⟨h1,x,h2,h3,h4,h5,h6⟩;exact⟨h1.pop,x,by simpa [nodesS,nodesL]using h2,h3,by rw [<-h4];simp [deepS,okS,allOk],h5,h6⟩
 case start=>exact⟨HS.out.1,0,by simp [nodesS,nodesL],by omega,by simp [deepS,deepL,okS,allOk],HS.out.2.1,HS.out.2.2.1⟩
 case assign=>
  intro l b o d W K hK
  gi_wp2
  exact hK
 case body=>
  rintro l' t s b o st W hsz' hlen ⟨h1,x,h2,h3,h4,h5,h6⟩;have c0:=h5.cell 0;have f0:=h5.frozen 0;simp only [zq]at c0;obtain⟨hx1,hx2⟩:=xzhb x h3;have hK1:=xziv (w0:=w) h5 (by omega) (by decide) 0 (.int .i64 ((x:Int)+1));have hR1:=h1.keep hK1;obtain⟨A1,cc,g1,g2,g3,g4,g5⟩:=hR1.head
  have h5':BlkIs (W.setCell ⟨w.heap.size+1+1+1,0,none⟩ (.int .i64 ((x:Int)+1))) (w.heap.size+1+1+1) 3 #[.int .i64 ((x:Int)+1)]:=by simpa using h5.put 0 (.int .i64 ((x:Int)+1))
  have h6':=h6.far (p:=⟨w.heap.size+1+1+1,0,none⟩) (by simp) (.int .i64 ((x:Int)+1));have c1:=h5'.cell 0;simp only [zq]at c1;have hbt:=(hR1.1).size;have c2:=h6'.cell 0;have f2:=h6'.frozen 0;simp only [zq]at c2;have hKO:=KeepsOthers.setCell W ⟨w.heap.size+1+1+1,0,none⟩ (.int .i64 ((x:Int)+1));have hKR:=xzdl h5 (by decide) 0 (.int .i64 ((x:Int)+1));generalize hW1:W.setCell ⟨w.heap.size+1+1+1,0,none⟩ (.int .i64 ((x:Int)+1))=W1 at*;have HW1:=zd hW1;have HA:=zd (And.intro h1 (And.intro h2 (And.intro h3 (And.intro h4 (And.intro h5 h6)))));have HB:=zd (And.intro hR1 (And.intro h5' (And.intro h6' (And.intro hbt (And.intro hKO hKR)))));have HC:=zd hK1;clear hK1 hR1 h5' h6' hbt hKO hKR hlen h1 h2 h3 h4 h5 h6 g1 g2 g3 g5;have hds:=zd (xzha t s b o st);have hns:=zd (xzcq t s b o 0 0 0 st);have hok:=zd (xzef t s b o 0 0 0 st)
  have hfin:∀ W3,KeepsOthers W1 W3->Below w.heap.size W1 W3->BlkIs W3 (w.heap.size+1) 4 #[.bool false]->(Tree.node k m l lo hi).mayN=false->KeepsOthers W (W3.setCell ⟨w.heap.size+1,0,none⟩ (.bool false))/\MayX w (.node k m l lo hi) (W3.setCell ⟨w.heap.size+1,0,none⟩ (.bool false)):=fun W3 k1 k2 k3 k4=>
   ⟨(HB.out.2.2.2.2.1.trans k1).trans (KeepsOthers.setCell _ _ _),((HB.out.1.1.trans k2).setCell (p:=⟨w.heap.size+1,0,none⟩) (Nat.le_succ _) _),k4,by simpa using k3.put 0 (.bool false)⟩
  have HF:=zd hfin;clear hfin
  by_cases hq1:x+1>300
  ·have e1:decide (((x:Int)+1)>300)=true:=decide_eq_true (by omega)
   gi_wp2
   refine⟨trivial,?_⟩
   gi_wp2
   refine HF.out W1 (KeepsOthers.refl _) (Below.refl _ _) HB.out.2.2.1 ?_;have h2:=HA.out.2.1;have h3:=hns.out;unfold Tree.mayN;rw [decide_eq_false (by omega)];rfl
  ·have e1:decide (((x:Int)+1)>300)=false:=decide_eq_false (by omega)
   by_cases hq2:st.length+1>30
   ·have e2:decide (((st.length:Int)+1)>30)=true:=decide_eq_true (by omega)
    gi_wp2
    refine⟨trivial,?_⟩
    gi_wp2
    refine HF.out W1 (KeepsOthers.refl _) (Below.refl _ _) HB.out.2.2.1 ?_;have h4:=HA.out.2.2.2.1;have h3:=hds.out;rw [decide_eq_false (show ¬ deepS ((t::s,b,o)::st)<=30 by omega)]at h4;unfold Tree.mayN;rw [<-h4];simp
   ·have e2:decide (((st.length:Int)+1)>30)=false:=decide_eq_false (by omega)
    obtain⟨r0,r1,r2,r3,r4,r5,r6,r7⟩:=xzev g4 (Below.refl _ _);have HM:=zd (xzfp t.kind t.set A1 t.sub.length cc t.lo t.hi W1);unfold reV reL at HM;have HO:=zd (xzef t s b o 0 0 0 st);generalize hq:okNode t.kind t.set t.sub.length t.lo t.hi=q at*;have HQ:=zd hq;clear hq hok
    cases q
    ·gi_wp2_with (first|(refine⟨trivial,?_⟩;gi_at_call 49;refine(CallsIn.inRound l' (callsIn_wide.2 HM.out)).mono ?_;rintro e W3 ⟨rfl,hb3⟩;have hbl3:=HB.out.2.2.1.step hb3;have cB3:=hbl3.cell 0;have fB3:=hbl3.frozen 0;simp only [zq]at cB3))
     refine HF.out W3 (xzam hb3) (hb3.mono HB.out.2.2.2.1) hbl3 ?_;have h4:=HA.out.2.2.2.1;rw [HO.out,Bool.false_and,Bool.and_false]at h4;unfold Tree.mayN;rw [<-h4,Bool.and_false]
    ·gi_wp2_with (first|(refine⟨trivial,?_⟩;gi_at_call 49;refine(CallsIn.inRound l' (callsIn_wide.2 HM.out)).mono ?_;rintro e W3 ⟨rfl,hb3⟩;have hbl3:=HB.out.2.2.1.step hb3;have cB3:=hbl3.cell 0;have fB3:=hbl3.frozen 0;simp only [zq]at cB3))
     have hkt:KeepsTrees w W1 W3:=(xzco hb3).trees HB.out.2.2.2.1 HB.out.2.2.2.1;refine⟨HB.out.2.2.2.2.1.trans (xzam hb3),HB.out.2.2.2.2.2.trans (xzhc hb3),RowsIn.told HA.out.1 ⟨HC.out.1.trans hkt.1,fun k cs hk=>hkt.2 k cs (HC.out.2 k cs hk)⟩ fun b' o' hr=>⟨hr,x+1,?_,by omega,?_,?_,hbl3⟩⟩
     ·have h2:=HA.out.2.1
      have h3:=xzcq t s b o b' o' (o+8) st;omega
     ·have h4:=HA.out.2.2.2.1
      have h3:=xzgz t s b o b' o' (o+8) st;have h5:=xzef t s b o b' o' (o+8) st;rw [<-h4,<-h3,h5,HQ.out,Bool.true_and]
      congr 1
      exact decide_eq_decide.2 (by omega)
     ·have:=HB.out.2.1.step hb3
      rw [show((x+1:Nat):Int)=(x:Int)+1 by omega];exact this
 case done=>
  rintro d W hd' ⟨h1,x,h2,h3,h4,h5,h6⟩ hk;have c0:=h6.cell 0;have f0:=h6.frozen 0;simp only [zq]at c0;have HH:=zd (And.intro h2 (And.intro h3 h4));have HB:=zd h1.1;clear h1 h2 h3 h4 h5;go_wp2;have hK':=(KeepsOthers.setCell W ⟨w.heap.size+1,0,none⟩ (.bool true)).same d _ hk rfl;refine⟨by simp,.inl ⟨_,_,rfl,run_takeDeferred hK',?_⟩⟩
  have hb':BlkIs (W.setCell ⟨w.heap.size+1,0,none⟩ (.bool true)) (w.heap.size+1) 4 #[.bool true]:=by simpa using h6.put 0 (.bool true)
  have hl:=xzex (xzbc (.deferred none) hb' hK' rfl);refine⟨_,xzak (p:=2) (ty:=4) rfl rfl hl,?_,(HB.out.setCell (p:=⟨w.heap.size+1,0,none⟩) (Nat.le_succ _) _).trans (belowK_b (w:=w) (Nat.le_refl _) _ d _ _ (by omega) hK' rfl rfl)⟩;obtain⟨h2,h3,h4⟩:=HH.out;simp only [nodesS,Nat.add_zero]at h2;simp only [deepS,okS,Bool.and_true]at h4;unfold Tree.mayN;rw [decide_eq_true (by omega),<-h4];rfl
 case stop=>
  rintro d W hd' ⟨h1,h2,h3⟩ hk
  gi_wp2
  refine⟨by simp,.inl ⟨_,_,rfl,run_takeDeferred hk,?_⟩⟩;have hl:=xzex (xzbc (.deferred none) h3 hk rfl);refine⟨_,xzak (p:=2) (ty:=4) rfl rfl hl,?_,h1.trans (belowK_b (w:=w) (Nat.le_refl _) _ d _ _ (by omega) hk rfl rfl)⟩;rw [h2]
end
section
open Go.RowKit
theorem one_reL {k lo hi:Int}{m:Nat->Bool}{A:Option Addr}{n c:Nat}:∀ u∈reL k m A n c lo hi,u.oneCell'=true:=by
 intro u hu;simp only [reL,List.mem_cons,List.not_mem_nil,or_false]at hu
 rcases hu with rfl|rfl|rfl|rfl|rfl|rfl|rfl|rfl<;>rfl
section
variable {F : Fence} {nF : Nat} {P : Program} {ops : Array Oper} {rest : List Oper} {op : Oper} {a : Act} {w : World} {Q : Exit → Act → World → Prop}
end
theorem xzey (t:Tree):0<t.nodes:=by cases t with|node k m l lo hi=>simp [Tree.nodes]
theorem xzca:∀ l:List Tree,l.length<=nodesL l
 |[]=>Nat.le_refl _
 |t::r=>by have:=xzey t;have:=xzca r;simp [nodesL];omega
theorem xzbw:∀ {l:List Tree} {t:Tree},t∈l->t.nodes<=nodesL l
 |t::r,x,h=>by
  rcases List.mem_cons.1 h with rfl|h
  ·simp [nodesL]
  ·have:=xzbw h;simp [nodesL];omega
mutual
theorem xzdm:∀ t:Tree,t.deepN<=t.nodes
 | .node k m l lo hi=>by have:=deepL_nodes l;simp [Tree.deepN,Tree.nodes];omega
theorem deepL_nodes:∀ l:List Tree,deepL l<=nodesL l
 |[]=>Nat.le_refl _
 |t::r=>by have:=xzdm t;have:=deepL_nodes r;simp [deepL,nodesL];omega
end
attribute [local go_sem] Oper.semAt_some
theorem CloneJ.keep {w W W':World}{g:Nat}{l0:List Tree}{st:List Row}{B:Nat}(h:CloneJ w g l0 st W)(hl:Loose B W W')(hB:w.heap.size<=B):CloneJ w g l0 st W':=by
 obtain⟨F,h1,h2⟩:=h;exact⟨F,h1,h2.keep ⟨hl.os,hl.tape,hl.output,hl.size,fun k hk=>hl.low k (by omega) (by have:=h2.low.size;omega)⟩ fun k cs hx=>hl.blk hx (by decide)⟩
end
section
open Go.RowKit
def zeroL:List Value:=[.int .i64 0,.int .u64 0,.int .u64 0,.int .u64 0,.int .u64 0,.slice none 0 0,.int .i64 0,.int .i64 0]
theorem wd_zero (i:Nat):wd (fun _=>false) i=0:=by
 refine(xzkn (by decide) fun j _=>?_).symm
 simp
def Sub (V W:World):Prop:=∀ p v,V.cell? p=some v->W.cell? p=some v
theorem Sub.refl (W:World):Sub W W:=fun _ _ h=>h
theorem Sub.trans {A B C:World}(h:Sub A B)(k:Sub B C):Sub A C:=fun p v hv=>k p v (h p v hv)
theorem Tree.At.sub {V W:World}(hs:Sub V W):∀ (T:Tree) {v:Value},Tree.At V T v->Tree.At W T v:=by
 intro T
 induction T using Tree.ind with
 |h k m l lo hi ih=>
  intro v h;unfold Tree.At at h ⊢;obtain⟨A,c,rfl,hc,hl⟩:=h;refine⟨A,c,rfl,hc,fun hne=>?_⟩;obtain⟨b,o,rfl,ha⟩:=hl hne;refine⟨b,o,rfl,AllAt.mk l b o fun i hi=>?_⟩;obtain⟨cs,h1,h2,h3⟩:=AllAt.get l b o ha i hi;exact⟨cs,ih _ (List.getElem_mem hi) h1,h2,fun j v hv=>hs _ _ (h3 j v hv)⟩
theorem AllAt.sub {V W:World}(hs:Sub V W){l:List Tree}{b o:Nat}(h:AllAt V l b o):AllAt W l b o:=
 AllAt.mk l b o fun i hi=>by
  obtain⟨cs,h1,h2,h3⟩:=AllAt.get l b o h i hi;exact⟨cs,h1.sub hs,h2,fun j v hv=>hs _ _ (h3 j v hv)⟩
def rowT (kind:Int)(none:Tree):List Tree->Tree
 |[]=>none
 |[t]=>t
 |l=>.node kind (fun _=>false) l 0 0
theorem Tree.At.form {W:World}{T:Tree}{v:Value}(h:Tree.At W T v):∃ A n c,v=reV T.kind T.set A n c T.lo T.hi:=by
 cases T with
 |node k m l lo hi=>
  obtain⟨A,c,rfl,_⟩:=h.open;exact⟨A,l.length,c,rfl⟩
theorem AllAt.step {W W':World}{l:List Tree}{b o:Nat}(h:AllAt W l b o)(hb:Below W.heap.size W W'):AllAt W' l b o:=
 AllAt.mk l b o fun i hi=>by
  obtain⟨cs,h1,h2,h3⟩:=AllAt.get l b o h i hi;exact⟨cs,h1.step hb,h2,xzat h3 (by intro e;subst e;simp at h2) hb⟩
end
end Go.Proofs.YtgjfhbpmahgfcaaDoor
