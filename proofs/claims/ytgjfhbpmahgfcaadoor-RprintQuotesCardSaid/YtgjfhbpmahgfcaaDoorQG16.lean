/-
 WHAT IS SAID OF NO PROGRAM: a region that draws its order, whose operations read, call and make new memory, and store last: one walk in the order of the text serves every order, where of each value something is said that abides what grows. No condition but those of the theorem.
-/
import Derived.Test.YtgjfhbpmahgfcaaDoorQG03
namespace Go.Proofs.YtgjfhbpmahgfcaaDoor
section
open Go.RowKit
section grow
variable {P : Program} {ops : Array Oper} {C : World → Prop}
def textFrame (ops:Array Oper)(vs:Nat->Value)(a0:Act):Nat->Act
 |0=>a0
 |i+1=>(textFrame ops vs a0 i).put ((ops[i]?).bind (·.dst)) (vs i)
theorem xzdb {h N:Nat}{a0:Act}(hD:distinctB ops h N=true)(hN:a0.tmps.size=N)(hh:h<=ops.size)(vs:Nat->Value):∀ k,k<=h->Came ops (fun j=>decide (j<k)) vs a0 (textFrame ops vs a0 k)
 |0,_=>⟨rfl,rfl,fun i o t _ hi=>by simp at hi,fun _ _=>rfl⟩
 |k+1,hk=>by
  have ih:=xzdb hD hN hh vs k (by omega);obtain⟨o,ho⟩:∃ o,ops[k]? =some o:=⟨_,Array.getElem?_eq_getElem (by omega)⟩
  have:=ih.put (L':=fun j=>decide (j<k+1)) (v':=vs) hD hN (fun i hi=>by have:=of_decide_eq_true hi;omega) (show k<h by omega) ho (by simp) (vs k)
   (fun j=>by rw [Bool.eq_iff_iff];simp;omega) (fun _ _=>rfl) rfl
  show Came ops _ vs a0 ((textFrame ops vs a0 k).put ((ops[k]?).bind (·.dst)) (vs k))
  rw [ho];exact this
variable {h N : Nat} {V : Nat → Value → World → Prop} {a0 : Act} {w0 : World}
end grow
end
section
open Go.RowKit
section acts
variable {P : Program} {ops : Array Oper} {C : World → Prop}
def actUpon (P:Program)(w:World)(R:World->World->Prop)(V:Value->World->Prop):Result Next->Prop
 | .ok (.value v) w'=>R w w'/\V v w'
 | .ok (.enter f args) w'=>w'=w/\Calls P f args w (fun e w''=>∃ v,e=.returned v/\R w w''/\V v w'')
 |_=>False
theorem xzad {w w':World}{R:World->World->Prop}{V:Value->World->Prop}{x:Value}(hr:R w w')(h:V x w'):actUpon P w R V (.ok (.value x) w'):=⟨hr,h⟩
theorem xzel {w:World}{R:World->World->Prop}{V:Value->World->Prop}{f:FuncId}{args:Array Value}(h:Calls P f args w (fun e w''=>∃ v,e=.returned v/\R w w''/\V v w'')):actUpon P w R V (.ok (.enter f args) w):=⟨rfl,h⟩
def StandsA (ops:Array Oper)(C:World->Prop)(h:Nat)(V:Nat->Value->World->Prop)(a0:Act)(listed:Array Bool)(a:Act)(u:World):Prop:=
 HeadInv .any ops h listed/\∃ vs:Nat->Value,Came ops (fun i=>listed.getD i false) vs a0 a/\C u/\(∀ i,i<h->listed.getD i false=true->V i (vs i) u)
def StepA (P:Program)(ops:Array Oper)(C:World->Prop)(R:Nat->World->World->Prop)(V:Nat->Value->World->Prop)(a0:Act)(i:Nat):Prop:=
 ∀ (vs:Nat->Value) (u:World),C u->(∀ j,j<i->Region.waitsFor .any ops i j=true->V j (vs j) u)->∀ o,ops[i]? =some o->o.guard=none/\actUpon P u (R i) (V i) ((execOp (textFrame ops vs a0 i).eval o).run P u)
variable {h N : Nat} {R : Nat → World → World → Prop} {V : Nat → Value → World → Prop} {a0 : Act}
theorem xzhv (hsel:Region.noSelect ops=true)(hh:h<=ops.size)(hD:distinctB ops h N=true)(hK:looksB ops h h=true)(hN:a0.tmps.size=N)
 (hCs:∀ i u u',i<h->C u->R i u u'->C u')(hVs:∀ i j v u u',i<h->j<h->i≠j->V i v u->R j u u'->V i v u'){Q:Exit->Act->World->Prop}{listed:Array Bool}{a:Act}{u:World}(hst:StandsA ops C h V a0 listed a u)
 {i:Nat} (hi:i<h) (hr:i∈Region.ready .any ops listed) (hv:StepA P ops C R V a0 i):
 wpOp P ops Q i (fun a' u'=>StandsA ops C h V a0 (listed.setIfInBounds i true) a' u') a u:=by
 obtain⟨inv,vs,hc,hC,hV⟩:=hst;have hcc:=xzdb hD hN hh vs i (by omega);obtain⟨hun,o',ho',hall⟩:=mem_ready.1 hr;have hunf:=getD_both hun
 have hlt:=fun j hj=>xzjz inv j hj
 have hsz:a.tmps.size=(textFrame ops vs a0 i).tmps.size:=hc.2.1.trans hcc.2.1.symm
 have hwait:∀ j,j<i->Region.waitsFor .any ops i j=true->listed.getD j false=true:=fun j _ h3=>by
  obtain⟨oi,hoi,e,he,hbd,hon⟩:=Region.waitsFor_spec h3;obtain rfl:oi=o':=Option.some.inj (hoi.symm.trans ho');have hl:=hall e he hbd;rw [hon]at hl;exact hl
 have hlook:∀ t∈o'.looksAt ops,a.tmps.getD t undef=(textFrame ops vs a0 i).tmps.getD t undef:=fun t ht=>by
  by_cases hwr:∃ j oj,j<h/\ops[j]? =some oj/\oj.dst=some t/\j≠i
  ·obtain⟨j,oj,hj,hoj,hd,hne⟩:=hwr
   obtain⟨h1,h2,h3⟩:=xzfi hK hi ho' ht hj hoj hd hne;have hl:=hwait j h1 h3;rw [hc.2.2.1 j oj t hoj hl hd,hcc.2.2.1 j oj t hoj (by simpa using h1) hd]
  ·have hn1:∀ j oj,ops[j]? =some oj->listed.getD j false=true->oj.dst≠some t:=fun j oj hoj hl hd=>by
    by_cases e:j=i
    ·subst e;rw [hunf]at hl;cases hl
    ·exact hwr ⟨j,oj,hlt j hl,hoj,hd,e⟩
   have hn2:∀ j oj,ops[j]? =some oj->decide (j<i)=true->oj.dst≠some t:=fun j oj hoj hl hd=>
    hwr ⟨j,oj,by have:=of_decide_eq_true hl;omega,hoj,hd,by have:=of_decide_eq_true hl;omega⟩
   rw [hc.2.2.2 t hn1,hcc.2.2.2 t hn2]
 obtain⟨hex,hwa⟩:=xzip (ops:=ops) (Region.noSelect_spec hsel i o' · · ho') hsz hlook
 have hset:∀ (x:Value) (u':World),R i u u'->V i x u'->StandsA ops C h V a0 (listed.setIfInBounds i true) (a.put o'.dst x) u':=fun x u' hbu hx=>by
  refine⟨inv.set hr (by omega),fun j=>if j=i then x else vs j,?_,hCs _ _ _ hi hC hbu,fun j h1 h3=>?_⟩
  ·refine hc.put hD hN (fun j hj=>hlt j hj) hi ho' hunf x (fun j=>?_) (fun j hj=>?_) (by simp)
   ·by_cases e:j=i
    ·subst e
     have:j<listed.size:=by rw [inv.size];omega
     simp [this]
    ·rw [getD_set_ne false (Ne.symm e)];simp [e]
   ·have hne:j≠i:=fun e=>by subst e;rw [hunf]at hj;cases hj
    simp [hne]
  ·by_cases e:j=i
   ·subst e;simpa using hx
   ·rw [getD_set_ne false (Ne.symm e)]at h3
    simp only [if_neg e];exact hVs j i _ _ _ h1 hi e (hV j h1 h3) hbu
 obtain⟨hg,hf⟩:=hv vs u hC (fun j hj hw=>hV j (by omega) (hwait j hj hw)) o' ho';unfold wpOp;simp only [ho']
 have hw:Region.wanted o' (yielded ops a.tmps)=true:=by unfold Region.wanted;rw [hg]
 rw [if_pos hw];refine .inl ?_;rw [<-hex]at hf;unfold Oper.wp;generalize(execOp a.eval o').run P u=r at hf
 cases r with
 |ok nx w'=>
  cases nx<;>simp only [actUpon]at hf<;>simp only [Oper.upon]
  case value x=>exact hset x w' hf.1 hf.2
  case enter f args=>
   obtain⟨rfl,hcall⟩:=hf
   exact hcall.mono fun e w'' ⟨v,he,hbw,hvw⟩=>by subst he;exact hset v w'' hbw hvw
 |halt x w'=>simp only [actUpon]at hf
theorem xzls {Q:Exit->Act->World->Prop}(hB:freeB ops h h N=true)(hN:a0.tmps.size=N)(hCs:∀ i u u',i<h->C u->R i u u'->C u')(hVs:∀ i j v u u',i<h->j<h->i≠j->V i v u->R j u u'->V i v u')
 (hS:∀ i,i<h->StepA P ops C R V a0 i)
 (hend:∀ a u,StandsA ops C h V a0 (headArr ops.size h) a u->wpList P ops Q (ops.toList.drop h) a u):
 ∀ (d:Nat) (listed:Array Bool) (a:Act) (u:World),toCome listed h=d->StandsA ops C h V a0 listed a u->wpAny P .any ops Q (d+(ops.size - h)) listed a u:=by
 simp only [freeB,Bool.and_eq_true,Bool.or_eq_true,decide_eq_true_eq]at hB;obtain⟨⟨⟨⟨⟨⟨⟨hsel,hnh⟩,hh⟩,hD⟩,hK⟩,hA⟩,hT⟩,hSq⟩:=hB;intro d
 induction d with
 |zero=>
  intro listed a u hd hst;have hl:=xzfl hst.1 (xzfj hd);subst hl;have:=wpAny_of_seq (md:=.any) (Q':=Q) (ops.toList.drop h) h (headArr ops.size h) a u (fun j=>by simp) (by simpa using hSq) (hend a u hst)
  simpa using this
 |succ d ih=>
  intro listed a u hd hst
  have hex:∃ i,i<h/\listed.getD i false=false:=by
   have hpos:0<((List.range h).filter fun i=> !listed.getD i false).length:=by unfold toCome at hd;omega
   obtain⟨i,hi⟩:=List.exists_mem_of_length_pos hpos;rw [List.mem_filter]at hi;exact⟨i,List.mem_range.1 hi.1,by simpa using hi.2⟩
  obtain⟨i0,hi0,hu0⟩:=hex;have hs:=hst.1.size;obtain⟨j0,hj0⟩:=xzfk hh hA hs i0 i0 (Nat.le_refl _) hi0 hu0;rw [show d+1+(ops.size - h)=(d+(ops.size - h))+1 by omega];refine⟨fun he=>(by rw [he]at hj0;cases hj0),fun i hi=>?_⟩
  have hil:i<ops.size:=by
   obtain⟨_,o,ho,_⟩:=mem_ready.1 hi;exact(Array.getElem?_eq_some_iff.1 ho).1
  have hih:i<h:=by
   rcases Nat.lt_or_ge i h with hlt|hge
   ·exact hlt
   ·rcases hT with hT|hT
    ·omega
    ·exact absurd hi (tail_waits hT.1 hT.2 (by omega) hst.1 (h - i0) i0 rfl hi0 (getD_in (by omega) hu0) i hge)
  have hun:=getD_both (mem_ready.1 hi).1;have hset:=xzgt hih (by omega) hun;exact wpOp_mono (fun a' u' hst'=>ih _ a' u' (by omega) hst') (xzhv hsel hh hD hK hN hCs hVs hst hih hi (hS i hih))
theorem xzau {id:Nat}{l:List Oper}{Q:Exit->Act->World->Prop}{a:Act}{w:World}(h N:Nat)(C:World->Prop)(R:Nat->World->World->Prop)(V:Nat->Value->World->Prop)
 (hm:P.follows .mixedOrders=true)(hB:freeB l.toArray h h N=true)(hN:a.tmps.size=N)(hC0:C w.drew)(hCs:∀ i u u',i<h->C u->R i u u'->C u')(hVs:∀ i j v u u',i<h->j<h->i≠j->V i v u->R j u u'->V i v u')
 (hS:∀ i,i<h->StepA P l.toArray C R V a i)
 (hE:∀ (vs:Nat->Value) (u:World),C u->(∀ i,i<h->V i (vs i) u)->wpList P l.toArray Q (l.drop h) (textFrame l.toArray vs a h) u):(Code.region id l.toArray true).wp P Q a w:=by
 have hB':=hB;simp only [freeB,Bool.and_eq_true,Bool.or_eq_true,decide_eq_true_eq]at hB';obtain⟨⟨⟨⟨⟨⟨⟨hsel,hnh⟩,hh⟩,hD⟩,hK⟩,hA⟩,hT⟩,hSq⟩:=hB';refine wp_region_any hm ?_
 have inv0:HeadInv .any l.toArray h (Array.replicate l.toArray.size false):=
  ⟨by simp,fun j oj _ hl=>(by rw [getD_replicate_false]at hl;cases hl),fun t _ ht=>getD_in (by simpa using ht) (getD_replicate_false _ _)⟩
 have hst0:StandsA l.toArray C h V a (Array.replicate l.toArray.size false) a w.drew:=by
  refine⟨inv0,fun _=>undef,⟨rfl,rfl,fun i o t _ hi=>?_,fun _ _=>rfl⟩,hC0,fun i _ hl=>?_⟩
  ·have hi':(Array.replicate l.toArray.size false).getD i false=true:=hi
   rw [getD_replicate_false]at hi';cases hi'
  ·rw [getD_replicate_false]at hl;cases hl
 have hcome:toCome (Array.replicate l.toArray.size false) h=h:=by
  unfold toCome;rw [List.filter_eq_self.2 (fun i _=>by rw [getD_replicate_false];rfl)]
  simp
 have:=xzls (P:=P) (Q:=Q) hB hN hCs hVs hS (fun a' u hst=>?_) h _ a w.drew hcome hst0
 ·rw [show h+(l.toArray.size - h)=l.toArray.size by omega]at this
  exact this
 ·obtain⟨inv,vs,hc,hC,hV⟩:=hst
  have hg:∀ i,i<h->(headArr l.toArray.size h).getD i false=true:=fun i hi=>by rw [xzcl,if_pos (by omega)];simpa using hi
  have hcall:Came l.toArray (fun j=>decide (j<h)) vs a a':=by
   refine⟨hc.1,hc.2.1,fun i o t ho hi ht=>hc.2.2.1 i o t ho (hg i (of_decide_eq_true hi)) ht,fun t ht=>hc.2.2.2 t fun i o ho hi=>ht i o ho ?_⟩;have:=xzjz inv i hi
   simpa using this
  have he:=hcall.unique (xzdb hD hN hh vs h (Nat.le_refl _)) (fun _ _=>rfl);subst he
  simpa using hE vs u hC (fun i hi=>hV i hi (hg i hi))
def putT:Option Tmp->Value->Array Value->Array Value
 |some d,v,t=>t.setIfInBounds d v
 |none,_,t=>t
def tmpsTo (ops:Array Oper)(vs:Nat->Value)(t:Array Value):Nat->Array Value
 |0=>t
 |i+1=>putT ((ops[i]?).bind (·.dst)) (vs i) (tmpsTo ops vs t i)
theorem xzaa (ops:Array Oper)(vs:Nat->Value)(a0:Act):∀ i,textFrame ops vs a0 i={a0 with tmps:=tmpsTo ops vs a0.tmps i}
 |0=>rfl
 |i+1=>by
  unfold textFrame tmpsTo;rw [xzaa ops vs a0 i]
  cases (ops[i]?).bind (·.dst)<;>rfl
end acts
end
end Go.Proofs.YtgjfhbpmahgfcaaDoor
