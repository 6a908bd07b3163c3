/-
 WHAT IS SAID OF NO PROGRAM: a region that draws its order, one operation of which (x) turns memory for good: one walk in the order of the text serves every order. No condition but those of the theorem.
-/
import Derived.Test.YthoaaginadjaoaaQG15
import Derived.Test.YthoaaginadjaoaaQG18
namespace Go.Proofs.Ythoaaginadjaoaa
section
open Go.RowKit
section turn
variable {P : Program} {ops : Array Oper} {C : Bool → World → Prop}
def StandsT (ops:Array Oper)(xo:Nat)(C:Bool->World->Prop)(h:Nat)(V:Nat->Value->World->Prop)(a0:Act)(listed:Array Bool)(a:Act)(u:World):Prop:=
 HeadInv .any ops h listed/\∃ vs:Nat->Value,Came ops (fun i=>listed.getD i false) vs a0 a/\C (listed.getD xo false) u/\(∀ i,i<h->listed.getD i false=true->V i (vs i) u)
def StepT (P:Program)(ops:Array Oper)(xo:Nat)(C:Bool->World->Prop)(R:Nat->World->World->Prop)(V:Nat->Value->World->Prop)(a0:Act)(i:Nat):Prop:=
 ∀ (c:Bool) (vs:Nat->Value) (u:World),(i=xo->c=false)->C c u->(∀ j,j<i->Region.waitsFor .any ops i j=true->V j (vs j) u)->∀ o,ops[i]? =some o->o.guard=none/\actUpon P u (R i) (V i) ((execOp (textFrame ops vs a0 i).eval o).run P u)
variable {xo : Nat} {h N : Nat} {R : Nat → World → World → Prop} {V : Nat → Value → World → Prop} {a0 : Act}
theorem xzmp (hsel:Region.noSelect ops=true)(hh:h<=ops.size)(hD:distinctB ops h N=true)(hK:looksB ops h h=true)(hN:a0.tmps.size=N)
 (hCs:∀ i c u u',i<h->(i=xo->c=false)->C c u->R i u u'->C (c||decide (i=xo)) u')(hVs:∀ i j v u u',i<h->j<h->i≠j->V i v u->R j u u'->V i v u'){Q:Exit->Act->World->Prop}{listed:Array Bool}{a:Act}{u:World}(hst:StandsT ops xo C h V a0 listed a u)
 {i:Nat} (hi:i<h) (hr:i∈Region.ready .any ops listed) (hv:StepT P ops xo C R V a0 i):
 wpOp P ops Q i (fun a' u'=>StandsT ops xo C h V a0 (listed.setIfInBounds i true) a' u') a u:=by
 obtain⟨inv,vs,hc,hC,hV⟩:=hst;have hcc:=xzbp hD hN hh vs i (by omega);obtain⟨hun,o',ho',hall⟩:=mem_ready.1 hr;have hunf:=getD_both hun
 have hlt:=fun j hj=>xzda inv j hj
 have hsz:a.tmps.size=(textFrame ops vs a0 i).tmps.size:=hc.2.1.trans hcc.2.1.symm
 have hwait:∀ j,j<i->Region.waitsFor .any ops i j=true->listed.getD j false=true:=fun j _ h3=>by
  obtain⟨oi,hoi,e,he,hbd,hon⟩:=Region.waitsFor_spec h3;obtain rfl:oi=o':=Option.some.inj (hoi.symm.trans ho');have hl:=hall e he hbd;rw [hon]at hl;exact hl
 have hlook:∀ t∈o'.looksAt ops,a.tmps.getD t undef=(textFrame ops vs a0 i).tmps.getD t undef:=fun t ht=>by
  by_cases hwr:∃ j oj,j<h/\ops[j]? =some oj/\oj.dst=some t/\j≠i
  ·obtain⟨j,oj,hj,hoj,hd,hne⟩:=hwr
   obtain⟨h1,h2,h3⟩:=xzcf hK hi ho' ht hj hoj hd hne;have hl:=hwait j h1 h3;rw [hc.2.2.1 j oj t hoj hl hd,hcc.2.2.1 j oj t hoj (by simpa using h1) hd]
  ·have hn1:∀ j oj,ops[j]? =some oj->listed.getD j false=true->oj.dst≠some t:=fun j oj hoj hl hd=>by
    by_cases e:j=i
    ·subst e;rw [hunf]at hl;cases hl
    ·exact hwr ⟨j,oj,hlt j hl,hoj,hd,e⟩
   have hn2:∀ j oj,ops[j]? =some oj->decide (j<i)=true->oj.dst≠some t:=fun j oj hoj hl hd=>
    hwr ⟨j,oj,by have:=of_decide_eq_true hl;omega,hoj,hd,by have:=of_decide_eq_true hl;omega⟩
   rw [hc.2.2.2 t hn1,hcc.2.2.2 t hn2]
 obtain⟨hex,hwa⟩:=xzdw (ops:=ops) (Region.noSelect_spec hsel i o' · · ho') hsz hlook
 have hset:∀ (x:Value) (u':World),R i u u'->V i x u'->StandsT ops xo C h V a0 (listed.setIfInBounds i true) (a.put o'.dst x) u':=fun x u' hbu hx=>by
  refine⟨inv.set hr (by omega),fun j=>if j=i then x else vs j,?_,?_,fun j h1 h3=>?_⟩
  ·refine hc.put hD hN (fun j hj=>hlt j hj) hi ho' hunf x (fun j=>?_) (fun j hj=>?_) (by simp)
   ·by_cases e:j=i
    ·subst e
     have:j<listed.size:=by rw [inv.size];omega
     simp [this]
    ·rw [getD_set_ne false (Ne.symm e)];simp [e]
   ·have hne:j≠i:=fun e=>by subst e;rw [hunf]at hj;cases hj
    simp [hne]
  ·have hi2:i<listed.size:=by rw [inv.size];omega
   have hcs:=hCs i _ _ _ hi (fun e=>by rw [<-e];exact hunf) hC hbu
   have eq:(listed.setIfInBounds i true).getD xo false=(listed.getD xo false||decide (i=xo)):=by
    by_cases e:i=xo
    ·subst e;simp [hi2]
    ·rw [getD_set_ne false e];simp [e]
   rw [eq];exact hcs
  ·by_cases e:j=i
   ·subst e;simpa using hx
   ·rw [getD_set_ne false (Ne.symm e)]at h3
    simp only [if_neg e];exact hVs j i _ _ _ h1 hi e (hV j h1 h3) hbu
 obtain⟨hg,hf⟩:=hv _ vs u (fun e=>by rw [<-e];exact hunf) hC (fun j hj hw=>hV j (by omega) (hwait j hj hw)) o' ho';unfold wpOp;simp only [ho']
 have hw:Region.wanted o' (yielded ops a.tmps)=true:=by unfold Region.wanted;rw [hg]
 rw [if_pos hw];refine .inl ?_;rw [<-hex]at hf;unfold Oper.wp;generalize(execOp a.eval o').run P u=r at hf
 cases r with
 |ok nx w'=>
  cases nx<;>simp only [actUpon]at hf<;>simp only [Oper.upon]
  case value x=>exact hset x w' hf.1 hf.2
  case enter f args=>
   obtain⟨rfl,hcall⟩:=hf
   exact hcall.mono fun e w'' ⟨v,he,hbw,hvw⟩=>by subst he;exact hset v w'' hbw hvw
 |halt x w'=>simp only [actUpon]at hf
theorem xzry {Q:Exit->Act->World->Prop}(hB:freeB ops h h N=true)(hN:a0.tmps.size=N)(hCs:∀ i c u u',i<h->(i=xo->c=false)->C c u->R i u u'->C (c||decide (i=xo)) u')(hVs:∀ i j v u u',i<h->j<h->i≠j->V i v u->R j u u'->V i v u')
 (hS:∀ i,i<h->StepT P ops xo C R V a0 i)
 (hend:∀ a u,StandsT ops xo C h V a0 (headArr ops.size h) a u->wpList P ops Q (ops.toList.drop h) a u):
 ∀ (d:Nat) (listed:Array Bool) (a:Act) (u:World),toCome listed h=d->StandsT ops xo C h V a0 listed a u->wpAny P .any ops Q (d+(ops.size - h)) listed a u:=by
 simp only [freeB,Bool.and_eq_true,Bool.or_eq_true,decide_eq_true_eq]at hB;obtain⟨⟨⟨⟨⟨⟨⟨hsel,hnh⟩,hh⟩,hD⟩,hK⟩,hA⟩,hT⟩,hSq⟩:=hB;intro d
 induction d with
 |zero=>
  intro listed a u hd hst;have hl:=xzci hst.1 (xzcg hd);subst hl;have:=wpAny_of_seq (md:=.any) (Q':=Q) (ops.toList.drop h) h (headArr ops.size h) a u (fun j=>by simp) (by simpa using hSq) (hend a u hst)
  simpa using this
 |succ d ih=>
  intro listed a u hd hst
  have hex:∃ i,i<h/\listed.getD i false=false:=by
   have hpos:0<((List.range h).filter fun i=> !listed.getD i false).length:=by unfold toCome at hd;omega
   obtain⟨i,hi⟩:=List.exists_mem_of_length_pos hpos;rw [List.mem_filter]at hi;exact⟨i,List.mem_range.1 hi.1,by simpa using hi.2⟩
  obtain⟨i0,hi0,hu0⟩:=hex;have hs:=hst.1.size;obtain⟨j0,hj0⟩:=xzch hh hA hs i0 i0 (Nat.le_refl _) hi0 hu0;rw [show d+1+(ops.size - h)=(d+(ops.size - h))+1 by omega];refine⟨fun he=>(by rw [he]at hj0;cases hj0),fun i hi=>?_⟩
  have hil:i<ops.size:=by
   obtain⟨_,o,ho,_⟩:=mem_ready.1 hi;exact(Array.getElem?_eq_some_iff.1 ho).1
  have hih:i<h:=by
   rcases Nat.lt_or_ge i h with hlt|hge
   ·exact hlt
   ·rcases hT with hT|hT
    ·omega
    ·exact absurd hi (tail_waits hT.1 hT.2 (by omega) hst.1 (h - i0) i0 rfl hi0 (getD_in (by omega) hu0) i hge)
  have hun:=getD_both (mem_ready.1 hi).1;have hset:=xzcz hih (by omega) hun;exact wpOp_mono (fun a' u' hst'=>ih _ a' u' (by omega) hst') (xzmp hsel hh hD hK hN hCs hVs hst hih hi (hS i hih))
theorem xzed {id:Nat}{l:List Oper}{Q:Exit->Act->World->Prop}{a:Act}{w:World}(h N:Nat)(xo:Nat)(C:Bool->World->Prop)(R:Nat->World->World->Prop)(V:Nat->Value->World->Prop)
 (hm:P.follows .mixedOrders=true)(hB:freeB l.toArray h h N=true)(hN:a.tmps.size=N)(hC0:C false w.drew)(hCs:∀ i c u u',i<h->(i=xo->c=false)->C c u->R i u u'->C (c||decide (i=xo)) u')(hVs:∀ i j v u u',i<h->j<h->i≠j->V i v u->R j u u'->V i v u')
 (hS:∀ i,i<h->StepT P l.toArray xo C R V a i)
 (hE:∀ (vs:Nat->Value) (u:World),C (decide (xo<h)) u->(∀ i,i<h->V i (vs i) u)->wpList P l.toArray Q (l.drop h) (textFrame l.toArray vs a h) u):(Code.region id l.toArray true).wp P Q a w:=by
 have hB':=hB;simp only [freeB,Bool.and_eq_true,Bool.or_eq_true,decide_eq_true_eq]at hB';obtain⟨⟨⟨⟨⟨⟨⟨hsel,hnh⟩,hh⟩,hD⟩,hK⟩,hA⟩,hT⟩,hSq⟩:=hB';refine wp_region_any hm ?_
 have inv0:HeadInv .any l.toArray h (Array.replicate l.toArray.size false):=
  ⟨by simp,fun j oj _ hl=>(by rw [getD_replicate_false]at hl;cases hl),fun t _ ht=>getD_in (by simpa using ht) (getD_replicate_false _ _)⟩
 have hst0:StandsT l.toArray xo C h V a (Array.replicate l.toArray.size false) a w.drew:=by
  refine⟨inv0,fun _=>undef,⟨rfl,rfl,fun i o t _ hi=>?_,fun _ _=>rfl⟩,by rw [getD_replicate_false];exact hC0,fun i _ hl=>?_⟩
  ·have hi':(Array.replicate l.toArray.size false).getD i false=true:=hi
   rw [getD_replicate_false]at hi';cases hi'
  ·rw [getD_replicate_false]at hl;cases hl
 have hcome:toCome (Array.replicate l.toArray.size false) h=h:=by
  unfold toCome;rw [List.filter_eq_self.2 (fun i _=>by rw [getD_replicate_false];rfl)]
  simp
 have:=xzry (P:=P) (Q:=Q) hB hN hCs hVs hS (fun a' u hst=>?_) h _ a w.drew hcome hst0
 ·rw [show h+(l.toArray.size - h)=l.toArray.size by omega]at this
  exact this
 ·obtain⟨inv,vs,hc,hC,hV⟩:=hst
  have hg:∀ i,i<h->(headArr l.toArray.size h).getD i false=true:=fun i hi=>by rw [xzbf,if_pos (by omega)];simpa using hi
  have hcall:Came l.toArray (fun j=>decide (j<h)) vs a a':=by
   refine⟨hc.1,hc.2.1,fun i o t ho hi ht=>hc.2.2.1 i o t ho (hg i (of_decide_eq_true hi)) ht,fun t ht=>hc.2.2.2 t fun i o ho hi=>ht i o ho ?_⟩;have:=xzda inv i hi
   simpa using this
  have he:=hcall.unique (xzbp hD hN hh vs h (Nat.le_refl _)) (fun _ _=>rfl);subst he;rw [show(headArr l.toArray.size h).getD xo false=decide (xo<h)from ?_]at hC
  ·simpa using hE vs u hC (fun i hi=>hV i hi (hg i hi))
  ·rw [xzbf]
   split
   ·rfl
   ·exact(decide_eq_false (by omega)).symm
end turn
end
section
open Go.RowKit
attribute [local irreducible] FreeW textFrame
def PartIs (T:Tree):Prop:=∀ (M K:Nat->Bool) (S:Mk) (v:Value) (pb:Nat) (r f e m:Value) (w:World),MkAt M K w pb S r f e m->T.At (hide w M) v->S.Ok->S.sets.length+T.plN<=1048576->(∀ k,M k=true->k<w.heap.size)->(∀ k,K k=true->k<w.heap.size)->
 Calls Try.prog 39 #[.pointer (some ⟨pb,0,none⟩),v] w fun x w'=>∃ M' v',x=.returned v'/\Nx M M' w w'/\(∀ k,M' k=true->k<w'.heap.size)/\MkAt M' K w' pb (partP T S).1 r f e m/\PrtV (hide w' (MK M' K)) (partP T S).2 v'
def PrtL (V:World)(ps:List Prt)(xs:List Value):Prop:=xs.length=ps.length*3/\∀ (i:Nat) (h:i<ps.length),∃ v1 v2,xs[i*3]? =some v1/\xs[i*3+1]? =some v2/\xs[i*3+2]? =some (.bool ps[i].empty)/\IntsV V ps[i].first v1/\IntsV V ps[i].ends v2
theorem PrtL.nil (V:World):PrtL V [] []:=⟨rfl,fun i h=>by simp at h⟩
theorem PrtL.sub {V W:World}{ps:List Prt}{xs:List Value}(h:PrtL V ps xs)(hs:Sub V W):PrtL W ps xs:=⟨h.1,fun i hi=>by
 obtain⟨v1,v2,h0,h1,h2,h3,h4⟩:=h.2 i hi
 exact⟨v1,v2,h0,h1,h2,h3.sub hs,h4.sub hs⟩⟩
theorem PrtL.snoc {V:World}{ps:List Prt}{xs:List Value}(h:PrtL V ps xs){p:Prt}{v1 v2:Value}(h1:IntsV V p.first v1)(h2:IntsV V p.ends v2):PrtL V (ps++[p]) (xs++[v1,v2,.bool p.empty]):=by
 refine⟨by simp [h.1];omega,fun i hi=>?_⟩;simp only [List.length_append,List.length_singleton]at hi
 by_cases hil:i<ps.length
 ·obtain⟨a1,a2,k0,k1,k2,k3,k4⟩:=h.2 i hil
  have hx:=h.1;refine⟨a1,a2,?_,?_,?_,?_,?_⟩
  ·rw [List.getElem?_append_left (by omega)];exact k0
  ·rw [List.getElem?_append_left (by omega)];exact k1
  ·rw [List.getElem?_append_left (by omega),List.getElem_append_left hil];exact k2
  ·rw [List.getElem_append_left hil];exact k3
  ·rw [List.getElem_append_left hil];exact k4
 ·obtain rfl:i=ps.length:=by omega
  have hx:=h.1;refine⟨v1,v2,?_,?_,?_,by simpa using h1,by simpa using h2⟩
  ·rw [List.getElem?_append_right (by omega)];simp [hx]
  ·rw [List.getElem?_append_right (by omega)];simp [hx]
  ·rw [List.getElem?_append_right (by omega)];simp [hx]
theorem PrtL.parts {V W:World}{ps:List Prt}{xs:List Value}(h:PrtL V ps xs){B n c:Nat}(hn:n=ps.length)(ho:W.ownsRow 0 73 3 (.slice (some ⟨B,0,none⟩) n c) n xs):PrtsAt V W ps (.slice (some ⟨B,0,none⟩) n c):=by
 subst hn
 have hc:ps.length<=c/\c<=9223372036854775807:=by
  obtain⟨A,c',e,h1⟩:=xzak ho
  injection e with _ _ e
  subst e;exact h1
 refine⟨_,_,rfl,hc,fun _=>⟨B,0,rfl,fun i hi=>?_⟩⟩;obtain⟨v1,v2,h0,h1,h2,h3,h4⟩:=h.2 i hi
 have hcl:=fun j u hu=>ho.cells (g:=B) rfl j u hu
 simp only [Addr.add_lit,Nat.zero_add]at hcl;exact⟨v1,v2,by rw [Nat.zero_add];exact hcl _ _ h0,by rw [Nat.zero_add];exact hcl _ _ h1,by rw [Nat.zero_add];exact hcl _ _ h2,h3,h4⟩
theorem xzgg:(Try.prog.info? 73).map (fun i=>(i.zero,i.size,i.bytes))=some (some (.agg #[.slice none 0 0,.slice none 0 0,.bool false]),3,56):=by kernel_rfl
theorem xzoo {W:World}{B n c:Nat}{xs:List Value}(ho:W.ownsRow 0 73 3 (.slice (some ⟨B,0,none⟩) n c) n xs)(hn:n<c){g:Nat}{a1 a2 a3:Value}(hg:BlkIs W g 73 #[a1,a2,a3])(h1:a1.oneCell'=true)(h2:a2.oneCell'=true)(h3:a3.oneCell'=true):
 ∃ W',(Builtin.append_ #[87,87] 87 #[.slice (some ⟨B,0,none⟩) n c,.slice (some ⟨g,0,none⟩) 1 1]).run Try.prog W=.ok (.slice (some ⟨B,0,none⟩) (n+1) c) W'/\W'.ownsRow 0 73 3 (.slice (some ⟨B,0,none⟩) (n+1) c) (n+1) (xs++[a1,a2,a3])/\W.grownBy W' (some B):=by
 obtain⟨i0,hi0,hz0,hz1,hz2⟩:=info_parts xzgg;have hlen:=ho.1
 rcases ho.2 with⟨h,_⟩|⟨g',cap,cur,e,hbg,hgg,hnc,hcm,hcs,htake⟩
 ·cases h
 injection e with e1 _ e2
 injection e1 with e1
 injection e1 with e1
 subst e1 e2
 have hnw:∀ j u,[a1,a2,a3][j]? =some u->W.cell? ((⟨g,0,none⟩:Addr).add j)=some u:=fun j u hu=>by
  rw [Addr.add_lit,Nat.zero_add,hg.cell j];simpa using hu
 have hone:∀ u∈[a1,a2,a3],u.oneCell'=true:=fun u hu=>by
  simp only [List.mem_cons,List.not_mem_nil,or_false]at hu
  rcases hu with rfl|rfl|rfl<;>assumption
 have hr:=run_append_room (P:=Try.prog) W 87 87 73 i0 Try.underlying87 hi0 B n c cur hgg ⟨g,0,none⟩ 1 1 [a1,a2,a3] (by rw [hz1];rfl) hnw hone (by omega) (by rw [hz1];simp;omega);refine⟨_,hr,⟨by simp [hlen];omega,.inr ⟨B,c,_,rfl,Nat.zero_le _,setRow_heap W B cur _ _ _ hgg,by omega,hcm,?_,?_⟩⟩,⟨rfl,rfl,rfl,by simp,fun k _ hk=>setRow_other W B k _ (fun e=>hk (by rw [e]))⟩⟩
 ·have:n*3<=cur.toList.length:=by rw [Array.length_toList];omega
  simp only [hz1,List.size_toArray,List.length_append,List.length_take,List.length_drop,Array.length_toList,List.length_cons,List.length_nil];omega
 ·rw [hz1,htake]
  show(xs++[a1,a2,a3]++_).take ((n+1)*3)=_
  rw [List.take_left' (by simp [hlen];omega)]
theorem xzop (n:Nat)(h:n<=1099511627776)(w:World):∃ cur:Array Value,cur.size=n*3/\(Instr.makeSlice 87 (.int .i64 0) (.int .i64 (n:Nat))).run Try.prog w=.ok (.slice (some ⟨w.heap.size,0,none⟩) 0 n) (w.alloc (.cells cur 73)):=by
 obtain⟨i0,hi0,hz0,hz1,hz2⟩:=info_parts xzgg;have hr:=run_make (P:=Try.prog) w 87 73 i0 _ Try.underlying87 hi0 hz0 .i64 .i64 0 n (by omega) (by omega) (by rw [hz2];omega) (by omega);simp only [hz1,Int.toNat_natCast]at hr;exact⟨_,size_madeCells _ _ |>.trans (by simp),hr⟩
theorem xzhd (t:Tree):∀ (l:List Tree) (S:Mk),partsP (l++[t]) S=((partP t (partsP l S).1).1,(partsP l S).2++[(partP t (partsP l S).1).2])
 |[],S=>by simp [partsP]
 |x::l,S=>by simp only [List.cons_append,partsP,xzhd t l]
theorem xzer:∀ {l:List Tree},okTs l->∀ t∈l,t.okT
 |[],_,t,ht=>by simp at ht
 |x::l,h,t,ht=>by
  unfold okTs at h
  rcases List.mem_cons.1 ht with rfl|ht
  ·exact h.1
  ·exact xzer h.2 t ht
theorem xzee:∀ {l:List Tree} (j:Nat),okTs l->okTs (l.take j)
 |[],j,h=>by simpa using h
 |x::l,0,h=>by unfold okTs;trivial
 |x::l,j+1,h=>by
  unfold okTs at h;simp only [List.take_succ_cons];unfold okTs;exact⟨h.1,xzee j h.2⟩
theorem xzdl (t:Tree):∀ l:List Tree,sumN (l++[t])=sumN l+t.plN
 |[]=>by simp [sumN]
 |x::l=>by simp only [List.cons_append,sumN,xzdl t l];omega
theorem xzdm:∀ (l:List Tree) (j:Nat),sumN (l.take j)<=sumN l
 |[],j=>by simp
 |x::l,0=>by simp [sumN]
 |x::l,j+1=>by have:=xzdm l j;simp only [List.take_succ_cons,sumN];omega
set_option maxRecDepth 20000 in
set_option maxHeartbeats 16000000 in
theorem xzkz (l:List Tree)(IH:∀ t∈l,PartIs t)(hokT:okTs l)(M K:Nat->Bool)(S:Mk)(A:Option Addr)(c:Nat)(pb:Nat)(r f e m:Value)(w:World)(hm:MkAt M K w pb S r f e m)
 (hat:l≠[]->∃ b o,A=some ⟨b,o,none⟩/\∀ (i:Nat) (h:i<l.length),∃ cs:List Value,Tree.At (hide w M) l[i] (.agg cs.toArray)/\cs.length=8/\(hide w M).rangeAt b (o+i*8) cs)
 (hS:S.Ok)(hn:S.sets.length+sumN l<=1048576)(hll:l.length<=1048576)(hM:∀ k,M k=true->k<w.heap.size)(hK:∀ k,K k=true->k<w.heap.size):
 Calls Try.prog 49 #[.pointer (some ⟨pb,0,none⟩),.slice A l.length c] w fun x w'=>∃ M' v',x=.returned v'/\Nx M M' w w'/\(∀ k,M' k=true->k<w'.heap.size)/\MkAt M' K w' pb (partsP l S).1 r f e m/\PrtsAt (hide w' (MK M' K)) (hide w' M') (partsP l S).2 v':=by
 obtain⟨cur,hcs,hmk⟩:=xzop l.length (by omega) w;have hb1:Below w.heap.size w (w.alloc (.cells cur 73)):=(Below.refl _ _).alloc (Nat.le_refl _) _
 have hMf:∀ k,w.heap.size<=k->M k=false:=fun k hk=>by
  rw [Bool.eq_false_iff];intro e;have:=hM k e;omega
 have ho:(w.alloc (.cells cur 73)).ownsRow 0 73 3 (.slice (some ⟨w.heap.size,0,none⟩) 0 l.length) 0 []:=World.ownsRow_made w cur l.length (Nat.zero_le _) (by unfold maxLen;omega) hcs;have H0:=zd (show MkAt M (Kor K w.heap.size) (w.alloc (.cells cur 73)) pb S r f e m/\Nx M M w (w.alloc (.cells cur 73))/\_ from⟨hm.new hb1 (Nat.le_refl _),Nx.below hb1,ho⟩);have HAT:=zd hat;have HMM:=zd (And.intro hM (And.intro hK hMf));have HIH:=zd IH;have HOK:=zd hokT;have HS:=zd hS;have HPO:=zd (fun j=>partsP_ok (l.take j) S (xzee j hokT) hS);have HSN:=zd (fun(j:Nat) (h:j<l.length)=>(show partsP (l.take (j+1)) S=((partP l[j] (partsP (l.take j) S).1).1,(partsP (l.take j) S).2++[(partP l[j] (partsP (l.take j) S).1).2])by rw [List.take_succ_eq_append_getElem h];exact xzhd l[j] (l.take j) S))
 have HNN:=zd (fun(j:Nat) (h:j<l.length)=>(show S.sets.length+sumN (l.take j)+(l[j]).plN<=1048576 by
  have h1:=xzdm l (j+1);rw [List.take_succ_eq_append_getElem h,xzdl]at h1
  omega))
 clear hat hM hK hMf IH hokT hS hm ho hb1 hcs
 go_enter Try.func49,Try.ntmps49
 go_wp2
 go_loopw [5,13] (fun s i wr=>∃ (j:Nat) (M1:Nat->Bool),s=.slice (some ⟨w.heap.size,0,none⟩) j l.length/\i=.int .i64 j/\j<=l.length/\Hid (∃ xs,MkAt M1 (Kor K w.heap.size) wr pb (partsP (l.take j) S).1 r f e m/\Nx M M1 w wr/\(∀ k,M1 k=true->k<wr.heap.size)/\M1 w.heap.size=false/\
  wr.ownsRow 0 73 3 (.slice (some ⟨w.heap.size,0,none⟩) j l.length) j xs/\PrtL (hide wr (MK M1 (Kor K w.heap.size))) (partsP (l.take j) S).2 xs)) (fun _ i _=>l.length - (intOf i).toNat)
 case atStart=>exact⟨0,M,rfl,rfl,Nat.zero_le _,zd ⟨[],H0.out.1,H0.out.2.1,fun k hk=>Nat.lt_of_lt_of_le (HMM.out.1 k hk) (by simp),HMM.out.2.2 _ (Nat.le_refl _),H0.out.2.2,PrtL.nil _⟩⟩
 case round=>
  obtain⟨j,M1,rfl,rfl,hj,HH⟩:=hrel;clear hmk;obtain⟨xs,g1,g2,g3,g4,g5,g6⟩:=HH.out;clear HH
  by_cases hp:j<l.length
  ·have hk1:IntKind.i64.wrap ((j:Int)+1)=((j+1:Nat):Int):=by rw [IntKind.wrap_i64];omega
   have hdl:decide ((j:Int)<(l.length:Int))=true:=by simp;omega
   obtain⟨b,o,rfl,hg⟩:=HAT.out (by intro e;rw [e]at hp;simp at hp);obtain⟨cs,hcat,hlen,hrow⟩:=hg j hp;obtain⟨A',n',c',rfl⟩:=hcat.eight
   have hrow':wr.rangeAt b (o+j*8) (reL (l[j]).kind (l[j]).set A' n' c' (l[j]).lo (l[j]).hi):=fun i u hu=>xzar _ _ (g2.sub1 _ _ (hrow i u hu))
   obtain⟨r0,r1,r2,r3,r4,r5,r6,r7⟩:=xzaj hrow' (Below.refl _ _);have hxb:=BlkIs.new wr 39 (reL (l[j]).kind (l[j]).set A' n' c' (l[j]).lo (l[j]).hi).toArray;have hxw:Below wr.heap.size wr (wr.alloc (.cells (reL (l[j]).kind (l[j]).set A' n' c' (l[j]).lo (l[j]).hi).toArray 39)):=(Below.refl _ _).alloc (Nat.le_refl _) _;obtain⟨W9,hW9⟩:∃ W9,wr.alloc (.cells (reL (l[j]).kind (l[j]).set A' n' c' (l[j]).lo (l[j]).hi).toArray 39)=W9:=⟨_,rfl⟩;rw [hW9]at hxb hxw
   have hcx:=HIH.out _ (List.getElem_mem hp) M1 (Kor K w.heap.size) (partsP (l.take j) S).1 _ pb r f e m W9 (g1.step hxw) ((hcat.sub g2.sub1).sub (xzad _ hxw)) (HPO.out j).1 (by rw [(HPO.out j).2.2.1];exact HNN.out j hp)
    (fun k hk=>Nat.lt_of_lt_of_le (g3 k hk) hxw.size) (xzdr (fun k hk=>Nat.lt_of_lt_of_le (HMM.out.2.1 k hk) (Nat.le_trans g2.size hxw.size)) (Nat.lt_of_lt_of_le (World.ownsRow.lt g5 _ rfl).2 hxw.size))
   have hsn:=HSN.out j hp;have hlt:=(World.ownsRow.lt g5 _ rfl).2;have hG:=And.intro g2 (And.intro hxw (And.intro g4 (And.intro (xzac (W':=W9) g5 fun k hk=>hxw.block k (World.ownsRow.lt g5 k hk).2) (g6.sub (xzad _ hxw)))));have HG:=zd hG;simp only [reL]at hW9;unfold reV reL at*;have HC:=zd hcx;have HSS:=zd hsn;clear hcat hg hrow hrow' hlen hcx hsn hG hxw g1 g2 g3 g4 g5 g6;generalize partP l[j] (partsP (l.take j) S).1=TS at*;generalize(l[j]).kind=kx at*;generalize(l[j]).set=mx at*;generalize(l[j]).lo=lx at*;generalize(l[j]).hi=hx at*;obtain⟨x0,x1,x2,x3,x4,x5,x6,x7⟩:=hxb.eight;clear hxb
   go_wp2_with fail
   go_at_call 39
   refine HC.out.mono ?_;rintro x u1 ⟨M2,v2,rfl,hnx,hlt2,hmk2,p1,p2,rfl,hp1,hp2⟩;obtain⟨Y1,y1,rfl,_⟩:=hp1.form;obtain⟨Y2,y2,rfl,_⟩:=hp2.form;have hBW:w.heap.size<W9.heap.size:=(World.ownsRow.lt HG.out.2.2.2.1 _ rfl).2;have hMB:M2 w.heap.size=false:=(hnx.mine _ hBW).trans HG.out.2.2.1;have hbA:Below u1.heap.size u1 (u1.alloc (.cells #[.slice Y1 TS.2.first.length y1,.slice Y2 TS.2.ends.length y2,.bool TS.2.empty] 73)):=(Below.refl _ _).alloc (Nat.le_refl _) _
   have hown:=xzac (W':=u1) HG.out.2.2.2.1 fun k hk=>by
    injection hk with hk
    subst hk;exact hnx.block _ hBW HG.out.2.2.1
   have hownA:=xzac (W':=u1.alloc (.cells #[.slice Y1 TS.2.first.length y1,.slice Y2 TS.2.ends.length y2,.bool TS.2.empty] 73)) hown fun k hk=>hbA.block k (World.ownsRow.lt hown k hk).2
   obtain⟨W5,hrun,hown5,hgr⟩:=xzoo hownA hp (BlkIs.new u1 73 #[.slice Y1 TS.2.first.length y1,.slice Y2 TS.2.ends.length y2,.bool TS.2.empty]) rfl rfl rfl;have hkB:Kor K w.heap.size w.heap.size=true:=xzff _ _
   have hsub5:Sub (hide u1 (MK M2 (Kor K w.heap.size))) (hide W5 (MK M2 (Kor K w.heap.size))):=(xzad _ hbA).trans (xzaw fun k k1 k2=>⟨k1,hgr.block k k2 (fun e=>by
    injection e with e
    rw [MK_no,e,hkB]at k1
    cases k1.2)⟩)
   have hnx5:Nx M M2 w W5:=by
    have h:=HG.out.1.trans ((Nx.below HG.out.2.1).trans (hnx.trans (Nx.below hbA)));exact⟨hgr.os.trans h.os,hgr.tape.trans h.tape,hgr.output.trans h.output,Nat.le_trans h.size hgr.size,fun k hk hm=>(hgr.block k (Nat.lt_of_lt_of_le hk h.size) (fun e=>by injection e with e;omega)).trans (h.block k hk hm),h.mine⟩
   have HF:=zd (show ∃ xs,MkAt M2 (Kor K w.heap.size) W5 pb (partsP (l.take (j+1)) S).1 r f e m/\Nx M M2 w W5/\(∀ k,M2 k=true->k<W5.heap.size)/\M2 w.heap.size=false/\
    W5.ownsRow 0 73 3 (.slice (some ⟨w.heap.size,0,none⟩) (j+1) l.length) (j+1) xs/\PrtL (hide W5 (MK M2 (Kor K w.heap.size))) (partsP (l.take (j+1)) S).2 xs from by
    rw [HSS.out]
    refine⟨_,(hmk2.step hbA).sub (fun k hk hm=>hgr.block k hk (fun e=>by injection e with e;rw [e,hMB]at hm;cases hm)) (xzaw fun k k1 k2=>⟨k1,hgr.block k k2 (fun e=>by
     injection e with e
     rw [MK_no,e,hkB]at k1
     cases k1.2)⟩),hnx5,fun k hk=>Nat.lt_of_lt_of_le (hlt2 k hk) (Nat.le_trans hbA.size hgr.size),hMB,hown5,PrtL.snoc ((HG.out.2.2.2.2.sub (hnx.sub _)).sub hsub5) (hp1.sub hsub5) (hp2.sub hsub5)⟩)
   clear hnx hlt2 hmk2 hp1 hp2 hbA hown hownA hown5 hgr hsub5 hnx5
   go_wp2_with(refine xzal rfl _ _ 87 87 rfl rfl rfl hrun ?_)
   exact⟨⟨j+1,M2,rfl,rfl,hp,HF⟩,by simp [intOf];omega⟩
  ·have hdl:decide ((j:Int)<(l.length:Int))=false:=by simp;omega
   obtain rfl:j=l.length:=by omega
   rw [List.take_length]at g1 g6
   have HF:=zd (show MkAt M1 K wr pb (partsP l S).1 r f e m/\PrtsAt (hide wr (MK M1 K)) (hide wr M1) (partsP l S).2 (.slice (some ⟨w.heap.size,0,none⟩) l.length l.length)from by
    refine⟨g1.less,?_⟩
    have hlen:(partsP l S).2.length=l.length:=by have:=(HPO.out l.length).2.2.2;rw [List.take_length]at this;exact this
    have ho:(hide wr M1).ownsRow 0 73 3 (.slice (some ⟨w.heap.size,0,none⟩) l.length l.length) l.length xs:=xzac g5 fun k hk=>by
     injection hk with hk
     subst hk;rw [xzeq,g4];simp
    exact PrtL.parts (g6.sub xzdg) hlen.symm ho)
   have HE:=zd (And.intro g2 g3);clear g1 g2 g3 g4 g5 g6;go_wp2;go_ret;exact⟨M1,_,rfl,HE.out.1,HE.out.2,HF.out.1,HF.out.2⟩
end
section
open Go.RowKit
attribute [local irreducible] FreeW textFrame
theorem MkAt.read {M K:Nat->Bool}{W:World}{pb:Nat}{S:Mk}{r f e m:Value}(h:MkAt M K W pb S r f e m):∃ A c,W.cell? ⟨pb,0,none⟩=some (.slice A S.sets.length c):=by
 obtain⟨vs,vf,xs,h⟩:=h;obtain⟨A,c,rfl,_⟩:=xzak h.own0;exact⟨A,c,(six h.blk).1⟩
theorem PrtsAt.one {V W:World}{p:Prt}{g:Nat}{p1 p2:Value}(h1:IntsV V p.first p1)(h2:IntsV V p.ends p2)(h:BlkIs W g 73 #[p1,p2,.bool p.empty]):PrtsAt V W [p] (.slice (some ⟨g,0,none⟩) 1 1):=
 ⟨_,_,rfl,⟨by simp,by decide⟩,fun _=>⟨g,0,rfl,fun i hi=>by
  simp only [List.length_singleton]at hi
  obtain rfl:i=0:=by omega
  exact⟨p1,p2,by simpa using h.cell 0,by simpa using h.cell 1,by simpa using h.cell 2,h1,h2⟩⟩⟩
set_option maxRecDepth 20000 in
set_option maxHeartbeats 16000000 in
theorem xziq (mm:Nat->Bool)(A:Option Addr)(n c:Nat)(lo hi:Int)(hz:copiesI lo hi=0)(pb:Nat)(w:World):
 Calls Try.prog 51 #[.pointer (some ⟨pb,0,none⟩),reV 4 mm A n c lo hi] w fun x w'=>x=.returned (.slice none 0 0)/\Below w.heap.size w w':=by
 have hb:Below w.heap.size w (w.alloc (.cells (reL 4 mm A n c lo hi).toArray 39)):=(Below.refl _ _).alloc (Nat.le_refl _) _;have hx:=BlkIs.new w 39 (reL 4 mm A n c lo hi).toArray;have HC:=zd (fun u=>xzfx 4 mm A n c lo hi u);rw [hz]at HC;have HB:=zd hb;obtain⟨d0,d1,d2,d3,d4,d5,d6,d7⟩:=hx.eight;unfold reV reL at*;clear hb hx hz
 go_enter Try.func51,Try.ntmps51
 go_wp2_with fail
 go_at_call 42
 refine(HC.out _).mono ?_;rintro x u ⟨rfl,hu⟩;have HU:=zd (HB.out.trans (hu.mono HB.out.size));clear hu;go_wp2;go_ret;exact⟨rfl,HU.out⟩
end
end Go.Proofs.Ythoaaginadjaoaa
