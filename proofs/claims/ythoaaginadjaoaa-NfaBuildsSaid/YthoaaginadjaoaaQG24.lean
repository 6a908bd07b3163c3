/-
 WHAT IS SAID OF NO PROGRAM: a region that draws its order, one operation of which (xo) turns memory for good, be it a store: one walk in the order of the text serves every order. No condition but those of the theorem.
-/
import Derived.Test.YthoaaginadjaoaaQG19
namespace Go.Proofs.Ythoaaginadjaoaa
open Go.RowKit
section turn
variable {P : Program} {ops : Array Oper} {C : Bool → World → Prop}
def actUpon2 (P:Program)(w:World)(R:World->World->Prop)(V:Value->World->Prop):Result Next->Prop
 | .ok (.value v) w'=>R w w'/\V v w'
 | .ok .skip w'=>R w w'/\V undef w'
 | .ok (.enter f args) w'=>w'=w/\Calls P f args w (fun e w''=>∃ v,e=.returned v/\R w w''/\V v w'')
 |_=>False
theorem xzax {w w':World}{R:World->World->Prop}{V:Value->World->Prop}{x:Value}(hr:R w w')(h:V x w'):actUpon2 P w R V (.ok (.value x) w'):=⟨hr,h⟩
theorem xzfl {w w':World}{R:World->World->Prop}{V:Value->World->Prop}(hr:R w w')(h:V undef w'):actUpon2 P w R V (.ok .skip w'):=⟨hr,h⟩
def StandsU (ops:Array Oper)(xo:Nat)(C:Bool->World->Prop)(h:Nat)(V:Nat->Value->World->Prop)(a0:Act)(listed:Array Bool)(a:Act)(u:World):Prop:=
 HeadInv .any ops h listed/\∃ vs:Nat->Value,Came ops (fun i=>listed.getD i false) vs a0 a/\C (listed.getD xo false) u/\(∀ i,i<h->listed.getD i false=true->V i (vs i) u)
def StepU (P:Program)(ops:Array Oper)(xo:Nat)(C:Bool->World->Prop)(R:Nat->World->World->Prop)(V:Nat->Value->World->Prop)(a0:Act)(i:Nat):Prop:=
 ∀ (c:Bool) (vs:Nat->Value) (u:World),(i=xo->c=false)->C c u->(∀ j,j<i->Region.waitsFor .any ops i j=true->V j (vs j) u)->∀ o,ops[i]? =some o->o.guard=none/\actUpon2 P u (R i) (V i) ((execOp (textFrame ops vs a0 i).eval o).run P u)
variable {xo : Nat} {h N : Nat} {R : Nat → World → World → Prop} {V : Nat → Value → World → Prop} {a0 : Act}
theorem xzjw (hsel:Region.noSelect ops=true)(hh:h<=ops.size)(hD:distinctB ops h N=true)(hK:looksB ops h h=true)(hN:a0.tmps.size=N)
 (hCs:∀ i c u u',i<h->(i=xo->c=false)->C c u->R i u u'->C (c||decide (i=xo)) u')(hVs:∀ i j v u u',i<h->j<h->i≠j->V i v u->R j u u'->V i v u'){Q:Exit->Act->World->Prop}{listed:Array Bool}{a:Act}{u:World}(hst:StandsU ops xo C h V a0 listed a u)
 {i:Nat} (hi:i<h) (hr:i∈Region.ready .any ops listed) (hv:StepU P ops xo C R V a0 i):
 wpOp P ops Q i (fun a' u'=>StandsU ops xo C h V a0 (listed.setIfInBounds i true) a' u') a u:=by
 obtain⟨inv,vs,hc,hC,hV⟩:=hst;have hcc:=xzbp hD hN hh vs i (by omega);obtain⟨hun,o',ho',hall⟩:=mem_ready.1 hr;have hunf:=getD_both hun
 have hlt:=fun j hj=>xzda inv j hj
 have hsz:a.tmps.size=(textFrame ops vs a0 i).tmps.size:=hc.2.1.trans hcc.2.1.symm
 have hwait:∀ j,j<i->Region.waitsFor .any ops i j=true->listed.getD j false=true:=fun j _ h3=>by
  obtain⟨oi,hoi,e,he,hbd,hon⟩:=Region.waitsFor_spec h3;obtain rfl:oi=o':=Option.some.inj (hoi.symm.trans ho');have hl:=hall e he hbd;rw [hon]at hl;exact hl
 have hlook:∀ t∈o'.looksAt ops,a.tmps.getD t undef=(textFrame ops vs a0 i).tmps.getD t undef:=fun t ht=>by
  by_cases hwr:∃ j oj,j<h/\ops[j]? =some oj/\oj.dst=some t/\j≠i
  ·obtain⟨j,oj,hj,hoj,hd,hne⟩:=hwr
   obtain⟨h1,h2,h3⟩:=xzcf hK hi ho' ht hj hoj hd hne;have hl:=hwait j h1 h3;rw [hc.2.2.1 j oj t hoj hl hd,hcc.2.2.1 j oj t hoj (by simpa using h1) hd]
  ·have hn1:∀ j oj,ops[j]? =some oj->listed.getD j false=true->oj.dst≠some t:=fun j oj hoj hl hd=>by
    by_cases e:j=i
    ·subst e;rw [hunf]at hl;cases hl
    ·exact hwr ⟨j,oj,hlt j hl,hoj,hd,e⟩
   have hn2:∀ j oj,ops[j]? =some oj->decide (j<i)=true->oj.dst≠some t:=fun j oj hoj hl hd=>
    hwr ⟨j,oj,by have:=of_decide_eq_true hl;omega,hoj,hd,by have:=of_decide_eq_true hl;omega⟩
   rw [hc.2.2.2 t hn1,hcc.2.2.2 t hn2]
 obtain⟨hex,hwa⟩:=xzdw (ops:=ops) (Region.noSelect_spec hsel i o' · · ho') hsz hlook
 have hset:∀ (x:Value) (u':World),R i u u'->V i x u'->StandsU ops xo C h V a0 (listed.setIfInBounds i true) (a.put o'.dst x) u':=fun x u' hbu hx=>by
  refine⟨inv.set hr (by omega),fun j=>if j=i then x else vs j,?_,?_,fun j h1 h3=>?_⟩
  ·refine hc.put hD hN (fun j hj=>hlt j hj) hi ho' hunf x (fun j=>?_) (fun j hj=>?_) (by simp)
   ·by_cases e:j=i
    ·subst e
     have:j<listed.size:=by rw [inv.size];omega
     simp [this]
    ·rw [getD_set_ne false (Ne.symm e)];simp [e]
   ·have hne:j≠i:=fun e=>by subst e;rw [hunf]at hj;cases hj
    simp [hne]
  ·have hi2:i<listed.size:=by rw [inv.size];omega
   have hcs:=hCs i _ _ _ hi (fun e=>by rw [<-e];exact hunf) hC hbu
   have eq:(listed.setIfInBounds i true).getD xo false=(listed.getD xo false||decide (i=xo)):=by
    by_cases e:i=xo
    ·subst e;simp [hi2]
    ·rw [getD_set_ne false e];simp [e]
   rw [eq];exact hcs
  ·by_cases e:j=i
   ·subst e;simpa using hx
   ·rw [getD_set_ne false (Ne.symm e)]at h3
    simp only [if_neg e];exact hVs j i _ _ _ h1 hi e (hV j h1 h3) hbu
 obtain⟨hg,hf⟩:=hv _ vs u (fun e=>by rw [<-e];exact hunf) hC (fun j hj hw=>hV j (by omega) (hwait j hj hw)) o' ho';unfold wpOp;simp only [ho']
 have hw:Region.wanted o' (yielded ops a.tmps)=true:=by unfold Region.wanted;rw [hg]
 rw [if_pos hw];refine .inl ?_;rw [<-hex]at hf;unfold Oper.wp;generalize(execOp a.eval o').run P u=r at hf
 cases r with
 |ok nx w'=>
  cases nx<;>simp only [actUpon2]at hf<;>simp only [Oper.upon]
  case value x=>exact hset x w' hf.1 hf.2
  case skip=>exact hset undef w' hf.1 hf.2
  case enter f args=>
   obtain⟨rfl,hcall⟩:=hf
   exact hcall.mono fun e w'' ⟨v,he,hbw,hvw⟩=>by subst he;exact hset v w'' hbw hvw
 |halt x w'=>simp only [actUpon2]at hf
theorem xzor {Q:Exit->Act->World->Prop}(hB:freeB ops h h N=true)(hN:a0.tmps.size=N)(hCs:∀ i c u u',i<h->(i=xo->c=false)->C c u->R i u u'->C (c||decide (i=xo)) u')(hVs:∀ i j v u u',i<h->j<h->i≠j->V i v u->R j u u'->V i v u')
 (hS:∀ i,i<h->StepU P ops xo C R V a0 i)
 (hend:∀ a u,StandsU ops xo C h V a0 (headArr ops.size h) a u->wpList P ops Q (ops.toList.drop h) a u):
 ∀ (d:Nat) (listed:Array Bool) (a:Act) (u:World),toCome listed h=d->StandsU ops xo C h V a0 listed a u->wpAny P .any ops Q (d+(ops.size - h)) listed a u:=by
 simp only [freeB,Bool.and_eq_true,Bool.or_eq_true,decide_eq_true_eq]at hB;obtain⟨⟨⟨⟨⟨⟨⟨hsel,hnh⟩,hh⟩,hD⟩,hK⟩,hA⟩,hT⟩,hSq⟩:=hB;intro d
 induction d with
 |zero=>
  intro listed a u hd hst;have hl:=xzci hst.1 (xzcg hd);subst hl;have:=wpAny_of_seq (md:=.any) (Q':=Q) (ops.toList.drop h) h (headArr ops.size h) a u (fun j=>by simp) (by simpa using hSq) (hend a u hst)
  simpa using this
 |succ d ih=>
  intro listed a u hd hst
  have hex:∃ i,i<h/\listed.getD i false=false:=by
   have hpos:0<((List.range h).filter fun i=> !listed.getD i false).length:=by unfold toCome at hd;omega
   obtain⟨i,hi⟩:=List.exists_mem_of_length_pos hpos;rw [List.mem_filter]at hi;exact⟨i,List.mem_range.1 hi.1,by simpa using hi.2⟩
  obtain⟨i0,hi0,hu0⟩:=hex;have hs:=hst.1.size;obtain⟨j0,hj0⟩:=xzch hh hA hs i0 i0 (Nat.le_refl _) hi0 hu0;rw [show d+1+(ops.size - h)=(d+(ops.size - h))+1 by omega];refine⟨fun he=>(by rw [he]at hj0;cases hj0),fun i hi=>?_⟩
  have hil:i<ops.size:=by
   obtain⟨_,o,ho,_⟩:=mem_ready.1 hi;exact(Array.getElem?_eq_some_iff.1 ho).1
  have hih:i<h:=by
   rcases Nat.lt_or_ge i h with hlt|hge
   ·exact hlt
   ·rcases hT with hT|hT
    ·omega
    ·exact absurd hi (tail_waits hT.1 hT.2 (by omega) hst.1 (h - i0) i0 rfl hi0 (getD_in (by omega) hu0) i hge)
  have hun:=getD_both (mem_ready.1 hi).1;have hset:=xzcz hih (by omega) hun;exact wpOp_mono (fun a' u' hst'=>ih _ a' u' (by omega) hst') (xzjw hsel hh hD hK hN hCs hVs hst hih hi (hS i hih))
theorem xzdo {id:Nat}{l:List Oper}{Q:Exit->Act->World->Prop}{a:Act}{w:World}(h N:Nat)(xo:Nat)(C:Bool->World->Prop)(R:Nat->World->World->Prop)(V:Nat->Value->World->Prop)
 (hm:P.follows .mixedOrders=true)(hB:freeB l.toArray h h N=true)(hN:a.tmps.size=N)(hC0:C false w.drew)(hCs:∀ i c u u',i<h->(i=xo->c=false)->C c u->R i u u'->C (c||decide (i=xo)) u')(hVs:∀ i j v u u',i<h->j<h->i≠j->V i v u->R j u u'->V i v u')
 (hS:∀ i,i<h->StepU P l.toArray xo C R V a i)
 (hE:∀ (vs:Nat->Value) (u:World),C (decide (xo<h)) u->(∀ i,i<h->V i (vs i) u)->wpList P l.toArray Q (l.drop h) (textFrame l.toArray vs a h) u):(Code.region id l.toArray true).wp P Q a w:=by
 have hB':=hB;simp only [freeB,Bool.and_eq_true,Bool.or_eq_true,decide_eq_true_eq]at hB';obtain⟨⟨⟨⟨⟨⟨⟨hsel,hnh⟩,hh⟩,hD⟩,hK⟩,hA⟩,hT⟩,hSq⟩:=hB';refine wp_region_any hm ?_
 have inv0:HeadInv .any l.toArray h (Array.replicate l.toArray.size false):=
  ⟨by simp,fun j oj _ hl=>(by rw [getD_replicate_false]at hl;cases hl),fun t _ ht=>getD_in (by simpa using ht) (getD_replicate_false _ _)⟩
 have hst0:StandsU l.toArray xo C h V a (Array.replicate l.toArray.size false) a w.drew:=by
  refine⟨inv0,fun _=>undef,⟨rfl,rfl,fun i o t _ hi=>?_,fun _ _=>rfl⟩,by rw [getD_replicate_false];exact hC0,fun i _ hl=>?_⟩
  ·have hi':(Array.replicate l.toArray.size false).getD i false=true:=hi
   rw [getD_replicate_false]at hi';cases hi'
  ·rw [getD_replicate_false]at hl;cases hl
 have hcome:toCome (Array.replicate l.toArray.size false) h=h:=by
  unfold toCome;rw [List.filter_eq_self.2 (fun i _=>by rw [getD_replicate_false];rfl)]
  simp
 have:=xzor (P:=P) (Q:=Q) hB hN hCs hVs hS (fun a' u hst=>?_) h _ a w.drew hcome hst0
 ·rw [show h+(l.toArray.size - h)=l.toArray.size by omega]at this
  exact this
 ·obtain⟨inv,vs,hc,hC,hV⟩:=hst
  have hg:∀ i,i<h->(headArr l.toArray.size h).getD i false=true:=fun i hi=>by rw [xzbf,if_pos (by omega)];simpa using hi
  have hcall:Came l.toArray (fun j=>decide (j<h)) vs a a':=by
   refine⟨hc.1,hc.2.1,fun i o t ho hi ht=>hc.2.2.1 i o t ho (hg i (of_decide_eq_true hi)) ht,fun t ht=>hc.2.2.2 t fun i o ho hi=>ht i o ho ?_⟩;have:=xzda inv i hi
   simpa using this
  have he:=hcall.unique (xzbp hD hN hh vs h (Nat.le_refl _)) (fun _ _=>rfl);subst he;rw [show(headArr l.toArray.size h).getD xo false=decide (xo<h)from ?_]at hC
  ·simpa using hE vs u hC (fun i hi=>hV i hi (hg i hi))
  ·rw [xzbf]
   split
   ·rfl
   ·exact(decide_eq_false (by omega)).symm
end turn
end Go.Proofs.Ythoaaginadjaoaa
