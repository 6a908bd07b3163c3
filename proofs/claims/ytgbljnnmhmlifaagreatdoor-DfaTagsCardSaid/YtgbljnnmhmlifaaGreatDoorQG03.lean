/-
 WHAT IS SAID OF NO PROGRAM: a region that draws its order, whose operations read, call and lay new variables, and store last: one walk in the order of the text serves every order. No condition but those of the theorem.
-/
import Derived.StillTail
import Derived.Lib.TrailingZeros
import Derived.RangeFuncNested
import Derived.RangeFuncBound
import Derived.RangeFuncCalls
import Derived.RangeFuncLeaves
import Derived.Shelf.Abstract
import Derived.Shelf.RegionOpen
import Derived.WalkKit
import Derived.OwnWalkIn
import Derived.TacticsInMore
import Derived.LoopNIn
import Derived.LoopIn
import Derived.RangeFuncBox
import Derived.Test.YtgbljnnmhmlifaaGreatDoorQG02
import Derived.Test.YtgbljnnmhmlifaaGreatDoorQG01
namespace Go.Proofs.YtgbljnnmhmlifaaGreatDoor
section
open Go.RowKit
section free
variable {P : Program} {ops : Array Oper} {C : World → Prop}
def freeUpon (P:Program)(w:World)(v:Value):Result Next->Prop
 | .ok (.value u) w'=>Below w.heap.size w w'/\u=v
 | .ok .skip w'=>Below w.heap.size w w'/\v=undef
 | .ok (.enter f args) w'=>w'=w/\Calls P f args w (fun e w''=>e=.returned v/\Below w.heap.size w w'')
 |_=>False
def freeAt (P:Program)(o:Oper)(a:Act)(w:World)(v:Value):Prop:=freeUpon P w v ((execOp a.eval o).run P w)
theorem xzar {w:World}{x:Value}:freeUpon P w x (.ok (.value x) w):=⟨Below.refl _ _,rfl⟩
theorem xzah {w:World}{v:Value}{f:FuncId}{args:Array Value}(h:Calls P f args w fun e w''=>e=.returned v/\Below w.heap.size w w''):freeUpon P w v (.ok (.enter f args) w):=⟨rfl,h⟩
def FreeW (P:Program)(ops:Array Oper)(C:World->Prop)(Q:Act->Prop):List Oper->Act->Prop
 |[],a=>Q a
 |o::rest,a=>if Region.wanted o (yielded ops a.tmps)then ∃ v,(∀ w,C w->freeAt P o a w v)/\FreeW P ops C Q rest (a.put o.dst v)else FreeW P ops C Q rest (a.put o.dst undef)
theorem xzdf {Q:Act->Prop}{a:Act}(h:Q a):FreeW P ops C Q [] a:=h
theorem xzaf {Q:Act->Prop}{a:Act}{o:Oper}{rest:List Oper}
 (h:∀ K:Act->Prop,(∀ a,FreeW P ops C Q rest a->K a)->if Region.wanted o (yielded ops a.tmps)then ∃ v,(∀ w,C w->freeAt P o a w v)/\K (a.put o.dst v)else K (a.put o.dst undef)):FreeW P ops C Q (o::rest) a:=
 h _ (fun _ h=>h)
theorem xzhm {Q Q':Act->Prop}(h:∀ a,Q a->Q' a):∀ (l:List Oper) (a:Act),FreeW P ops C Q l a->FreeW P ops C Q' l a
 |[],a,hf=>h a hf
 |o::l,a,hf=>by
  unfold FreeW at hf ⊢
  split
  ·rename_i hw
   rw [if_pos hw]at hf;obtain⟨v,h1,h2⟩:=hf;exact⟨v,h1,xzhm h l _ h2⟩
  ·rename_i hw
   rw [if_neg hw]at hf;exact xzhm h l _ hf
def Came (ops:Array Oper)(L:Nat->Bool)(v:Nat->Value)(a0 a:Act):Prop:=
 a.defers=a0.defers/\a.tmps.size=a0.tmps.size/\
 (∀ i o t,ops[i]? =some o->L i=true->o.dst=some t->a.tmps.getD t undef=v i)/\
 (∀ t,(∀ i o,ops[i]? =some o->L i=true->o.dst≠some t)->a.tmps.getD t undef=a0.tmps.getD t undef)
theorem xzls {a:Act}{t:Tmp}{v:Value}(h:t<a.tmps.size):(a.put (some t) v).tmps.getD t undef=v:=by
 simp [Act.put,h]
theorem xzfc {a:Act}{dst:Option Tmp}{t:Tmp}{v:Value}(h:dst≠some t):(a.put dst v).tmps.getD t undef=a.tmps.getD t undef:=by
 cases dst with
 |none=>rfl
 |some d=>
  have hne:d≠t:=fun e=>h (by rw [e])
  simp [Act.put,Array.getElem?_setIfInBounds_ne hne]
theorem size_put (a:Act)(dst:Option Tmp)(v:Value):(a.put dst v).tmps.size=a.tmps.size:=by
 cases dst<;>simp [Act.put]
theorem xzun (a:Act)(dst:Option Tmp)(v:Value):(a.put dst v).defers=a.defers:=by
 cases dst<;>rfl
def distinctB (ops:Array Oper)(h N:Nat):Bool:=
 (List.range h).all fun i=>match (ops[i]?).bind (·.dst)with
  |none=>true
  |some t=>decide (t<N)&&(List.range h).all fun j=>decide (j=i)||decide ((ops[j]?).bind (·.dst)≠some t)
theorem xzfd {h N:Nat}(hB:distinctB ops h N=true){i:Nat}{o:Oper}{t:Tmp}(hi:i<h)(ho:ops[i]? =some o)(ht:o.dst=some t):
 t<N/\∀ j oj,j<h->ops[j]? =some oj->oj.dst=some t->j=i:=by
 have h1:=List.all_eq_true.1 hB i (List.mem_range.2 hi);simp only [ho,Option.bind_some,ht,Bool.and_eq_true,decide_eq_true_eq]at h1;refine⟨h1.1,fun j oj hj hoj htj=>?_⟩;have h2:=List.all_eq_true.1 h1.2 j (List.mem_range.2 hj);simp only [hoj,Option.bind_some,htj,Bool.or_eq_true,decide_eq_true_eq]at h2
 rcases h2 with h2|h2
 ·exact h2
 ·exact absurd rfl h2
theorem Came.put {h N:Nat}{L L':Nat->Bool}{v v':Nat->Value}{a0 a:Act}(hc:Came ops L v a0 a)(hB:distinctB ops h N=true)(hN:a0.tmps.size=N)
 (hL:∀ i,L i=true->i<h){i:Nat}{o:Oper}(hi:i<h)(ho:ops[i]? =some o)(hnot:L i=false)(x:Value)
 (hL':∀ j,L' j=(L j||decide (j=i)))(hv:∀ j,L j=true->v' j=v j)(hx:v' i=x):Came ops L' v' a0 (a.put o.dst x):=by
 obtain⟨h1,h2,h3,h4⟩:=hc;refine⟨(xzun _ _ _).trans h1,(size_put _ _ _).trans h2,fun j oj t hoj hj ht=>?_,fun t ht=>?_⟩
 ·rw [hL']at hj
  by_cases e:j=i
  ·subst e
   obtain rfl:oj=o:=Option.some.inj (hoj.symm.trans ho);rw [ht,xzls (by rw [h2,hN];exact(xzfd hB hi ho ht).1),hx]
  ·have hj':L j=true:=by simpa [e]using hj
   have hne:o.dst≠some t:=fun hd=>e ((xzfd hB hi ho hd).2 j oj (hL j hj') hoj ht)
   rw [xzfc hne,h3 j oj t hoj hj' ht,hv j hj']
 ·have hne:o.dst≠some t:=ht i o ho (by rw [hL'];simp)
  rw [xzfc hne]
  exact h4 t fun j oj hoj hj=>ht j oj hoj (by rw [hL',hj];rfl)
theorem Came.unique {L:Nat->Bool}{v v':Nat->Value}{a0 a a':Act}(hc:Came ops L v a0 a)(hc':Came ops L v' a0 a')(hv:∀ i,L i=true->v i=v' i):a=a':=by
 obtain⟨h1,h2,h3,h4⟩:=hc;obtain⟨k1,k2,k3,k4⟩:=hc';have hs:a.tmps.size=a'.tmps.size:=h2.trans k2.symm
 have hg:∀ t,a.tmps.getD t undef=a'.tmps.getD t undef:=fun t=>by
  by_cases hw:∃ i o,ops[i]? =some o/\L i=true/\o.dst=some t
  ·obtain⟨i,o,ho,hi,ht⟩:=hw
   rw [h3 i o t ho hi ht,k3 i o t ho hi ht,hv i hi]
  ·have hn:∀ i o,ops[i]? =some o->L i=true->o.dst≠some t:=fun i o ho hi ht=>hw ⟨i,o,ho,hi,ht⟩
   rw [h4 t hn,k4 t hn]
 have ht:a.tmps=a'.tmps:=by
  apply Array.ext hs
  intro i hi hi';have:=hg i
  simpa [hi,hi']using this
 cases a;cases a'
 simp_all
theorem Came.congr {L:Nat->Bool}{v v':Nat->Value}{a0 a:Act}(hc:Came ops L v a0 a)(hv:∀ i,L i=true->v' i=v i):Came ops L v' a0 a:=
 ⟨hc.1,hc.2.1,fun i o t ho hi ht=>by rw [hv i hi];exact hc.2.2.1 i o t ho hi ht,hc.2.2.2⟩
theorem xzgz {o:Oper}{a c:Act}(hs:∀ cs b,o.op≠ .select cs b)(hz:a.tmps.size=c.tmps.size)(h:∀ t∈o.looksAt ops,a.tmps.getD t undef=c.tmps.getD t undef):
 execOp a.eval o=execOp c.eval o/\Region.wanted o (yielded ops a.tmps)=Region.wanted o (yielded ops c.tmps):=by
 refine⟨execOp_congr o hs fun x hx=>?_,?_⟩
 ·cases x with
  |tmp t=>exact h t (List.mem_append_left _ (List.mem_filterMap.2 ⟨.tmp t,by simpa using hx,rfl⟩))
  |_=>rfl
 ·unfold Region.wanted
  cases hg:o.guard with
  |none=>rfl
  |some gw=>
   obtain⟨g,want⟩:=gw
   have hy:yielded ops a.tmps g=yielded ops c.tmps g:=by
    unfold yielded
    cases ht:(ops[g]?).bind (·.dst)with
    |none=>rfl
    |some t=>
     have h1:=h t (by simp [Oper.looksAt,hg,ht])
     have h2:a.tmps[t]? =c.tmps[t]? :=by
      rcases Nat.lt_or_ge t a.tmps.size with hlt|hge
      ·have hlt':t<c.tmps.size:=hz▸hlt
       simp [hlt,hlt']at h1
       simp [hlt,hlt',h1]
      ·rw [Array.getElem?_eq_none hge,Array.getElem?_eq_none (hz▸hge)]
     simp only [Option.bind_some,h2]
   simp only [hy]
def looksB (ops:Array Oper)(n h:Nat):Bool:=
 (List.range n).all fun i=>match ops[i]? with
  |none=>false
  |some o=>(o.looksAt ops).all fun t=>(List.range h).all fun j=>decide (j=i)||decide ((ops[j]?).bind (·.dst)≠some t)||(decide (j<i)&&decide (j<n)&&Region.waitsFor .any ops i j)
theorem xzek {n h:Nat}(hB:looksB ops n h=true){i:Nat}{o:Oper}(hi:i<n)(ho:ops[i]? =some o){t:Tmp}(ht:t∈o.looksAt ops){j:Nat}{oj:Oper}(hj:j<h)(hoj:ops[j]? =some oj)(hd:oj.dst=some t)(hne:j≠i):
 j<i/\j<n/\Region.waitsFor .any ops i j=true:=by
 have h1:=List.all_eq_true.1 hB i (List.mem_range.2 hi);simp only [ho]at h1;have h2:=List.all_eq_true.1 (List.all_eq_true.1 h1 t ht) j (List.mem_range.2 hj);simp only [hoj,Option.bind_some,hd,Bool.or_eq_true,Bool.and_eq_true,decide_eq_true_eq]at h2
 rcases h2 with(h2|h2)|h2
 ·exact absurd h2 hne
 ·exact absurd rfl h2
 ·exact⟨h2.1.1,h2.1.2,h2.2⟩
def ValAt (P:Program)(ops:Array Oper)(C:World->Prop)(a0:Act)(i:Nat)(V:Nat->Value):Prop:=
 ∃ o c,ops[i]? =some o/\Came ops (fun j=>decide (j<i)) V a0 c/\(Region.wanted o (yielded ops c.tmps)=true->∀ w,C w->freeAt P o c w (V i))/\(Region.wanted o (yielded ops c.tmps)=false->V i=undef)
theorem xzgq {h N:Nat}{a0:Act}(hB:distinctB ops h N=true)(hN:a0.tmps.size=N):∀ (l:List Oper) (k:Nat) (c:Act) (V:Nat->Value) (Q:Act->Prop),
 (∀ j,j<l.length->l[j]? =ops[k+j]?)->k+l.length<=h->Came ops (fun j=>decide (j<k)) V a0 c->FreeW P ops C Q l c->
 ∃ V' c',(∀ j,j<k->V' j=V j)/\(∀ i,k<=i->i<k+l.length->ValAt P ops C a0 i V')/\Came ops (fun j=>decide (j<k+l.length)) V' a0 c'/\Q c'
 |[],k,c,V,Q,_,_,hc,hf=>⟨V,c,fun _ _=>rfl,fun i h1 h2=>absurd h2 (by rw [List.length_nil];omega),hc,hf⟩
 |o::l,k,c,V,Q,hl,hk,hc,hf=>by
  have h0:ops[k]? =some o:=by simpa using(hl 0 (by simp)).symm
  have hlen:(o::l).length=l.length+1:=rfl
  have hkh:k<h:=by omega
  have hstep:∃ x,(Region.wanted o (yielded ops c.tmps)=true->∀ w,C w->freeAt P o c w x)/\(Region.wanted o (yielded ops c.tmps)=false->x=undef)/\FreeW P ops C Q l (c.put o.dst x):=by
   unfold FreeW at hf
   by_cases hw:Region.wanted o (yielded ops c.tmps)=true
   ·rw [if_pos hw]at hf
    obtain⟨x,h1,h2⟩:=hf;exact⟨x,fun _=>h1,fun h=>by(rw [hw]at h;cases h),h2⟩
   ·rw [if_neg hw]at hf
    exact⟨undef,fun h=>absurd h hw,fun _=>rfl,hf⟩
  obtain⟨x,hx1,hx2,hf'⟩:=hstep
  have hc':Came ops (fun j=>decide (j<k+1)) (fun j=>if j=k then x else V j) a0 (c.put o.dst x):=
   hc.put hB hN (fun i hi=>by have:=of_decide_eq_true hi;omega) hkh h0 (by simp) x
    (fun j=>by rw [Bool.eq_iff_iff];simp;omega) (fun j hj=>by have:=of_decide_eq_true hj;rw [if_neg (by omega)]) (by simp)
  obtain⟨V',c',k1,k2,k3,k4⟩:=xzgq hB hN l (k+1) _ _ Q (fun j hj=>by have:=hl (j+1) (by simp;omega);simpa [Nat.add_assoc,Nat.add_comm 1 j]using this) (by omega) hc' hf'
  have hVk:V' k=x:=by rw [k1 k (by omega)];simp
  refine⟨V',c',fun j hj=>by rw [k1 j (by omega),if_neg (by omega)],fun i hi1 hi2=>?_,?_,k4⟩
  ·by_cases e:i=k
   ·subst e
    exact⟨o,c,h0,hc.congr fun j hj=>by have:=of_decide_eq_true hj;rw [k1 j (by omega),if_neg (by omega)],by rw [hVk];exact hx1,by rw [hVk];exact hx2⟩
   ·exact k2 i (by omega) (by omega)
  ·rw [show k+(o::l).length=k+1+l.length by omega];exact k3
def acycB (ops:Array Oper)(h:Nat):Bool:=
 (List.range h).all fun i=>match ops[i]? with
  |some o=>o.after.all fun e=> !Region.binds .any e||decide (e.on<i)
  |none=>false
theorem xzlt {h:Nat}(hB:acycB ops h=true){i:Nat}{o:Oper}(hi:i<h)(ho:ops[i]? =some o):∀ e∈o.after,Region.binds .any e=true->e.on<i:=fun e he hb=>by
 have h1:=List.all_eq_true.1 hB i (List.mem_range.2 hi);simp only [ho]at h1;have h2:=Array.all_eq_true_iff_forall_mem.1 h1 e he
 simpa [hb]using h2
def headArr (n h:Nat):Array Bool:=((List.range n).map fun i=>decide (i<h)).toArray
theorem xzca (n h i:Nat)(b:Bool):(headArr n h).getD i b=if i<n then decide (i<h)else b:=by
 unfold headArr
 by_cases hi:i<n
 ·simp [hi]
 ·simp [hi]
def freeB (ops:Array Oper)(n h N:Nat):Bool:=
 Region.noSelect ops&&decide (n<=h)&&decide (h<=ops.size)&&distinctB ops h N&&looksB ops n h&&acycB ops h&&
  (decide (h=ops.size)||(Region.sinkB .any ops h&&Region.chainB .any ops h))&&Region.seqB .any ops (ops.size - h) h (headArr ops.size h)
def toCome (listed:Array Bool)(h:Nat):Nat:=((List.range h).filter fun i=> !listed.getD i false).length
theorem xzjj {p q:Nat->Bool}{i:Nat}:∀ (l:List Nat),l.Nodup->i∈l->p i=true->q i=false->(∀ j,j≠i->q j=p j)->(l.filter q).length+1=(l.filter p).length
 |[],_,h,_,_,_=>by cases h
 |x::l,hn,h,hp,hq,hj=>by
  rw [List.nodup_cons]at hn
  by_cases e:x=i
  ·subst e
   have hf:l.filter q=l.filter p:=List.filter_congr fun j hjl=>hj j (fun e=>hn.1 (by rw [<-e];exact hjl))
   simp [hp,hq,hf]
  ·have h':i∈l:=by
    rcases List.mem_cons.1 h with h|h
    ·exact absurd h.symm e
    ·exact h
   have ih:=xzjj l hn.2 h' hp hq hj;rw [List.filter_cons,List.filter_cons,hj x e]
   split
   ·simp only [List.length_cons];omega
   ·exact ih
theorem xzfe {listed:Array Bool}{h i:Nat}(hi:i<h)(hs:i<listed.size)(hu:listed.getD i false=false):toCome (listed.setIfInBounds i true) h+1=toCome listed h:=by
 unfold toCome;refine xzjj (i:=i) _ List.nodup_range (List.mem_range.2 hi) (by rw [hu];rfl) (by simp [hs]) (fun j hj=>by rw [getD_set_ne false (Ne.symm hj)])
def Stands (ops:Array Oper)(C:World->Prop)(n h:Nat)(V:Nat->Value)(Z:Nat->Array Value)(T:Nat->TypeId)(a0:Act)(w0:World)(listed:Array Bool)(a:Act)(u:World):Prop:=
 HeadInv .any ops h listed/\∃ g:Nat->Nat,Came ops (fun i=>listed.getD i false) (fun i=>if i<n then V i else .pointer (some ⟨g i,0,none⟩)) a0 a/\C u/\Below w0.heap.size w0 u/\
  (∀ i,n<=i->i<h->listed.getD i false=true->w0.heap.size<=g i/\BlkIs u (g i) (T i) (Z i))/\
  (∀ i j,n<=i->i<j->j<h->listed.getD i false=true->listed.getD j false=true->g i≠g j)
theorem xzff {n:Nat}{listed:Array Bool}(inv:HeadInv .any ops n listed)(i:Nat)(hi:listed.getD i false=true):i<n:=by
 rcases Nat.lt_or_ge i n with hlt|hge
 ·exact hlt
 ·rcases Nat.lt_or_ge i ops.size with h1|h1
  ·have:=getD_both (inv.tail i hge h1)
   rw [this]at hi;cases hi
  ·have hs:listed.size<=i:=by rw [inv.size];exact h1
   simp [Array.getElem?_eq_none hs]at hi
section step
variable {n h N : Nat} {V : Nat → Value} {Z : Nat → Array Value} {T : Nat → TypeId} {a0 : Act} {w0 : World}
theorem xzuo (hsel:Region.noSelect ops=true)(hnh:n<=h)(hh:h<=ops.size)(hD:distinctB ops h N=true)(hK:looksB ops n h=true)(hN:a0.tmps.size=N)
 (hCs:∀ u u',C u->Below u.heap.size u u'->C u'){Q:Exit->Act->World->Prop}{listed:Array Bool}{a:Act}{u:World}(hst:Stands ops C n h V Z T a0 w0 listed a u)
 {i:Nat} (hi:i<n) (hr:i∈Region.ready .any ops listed) (hv:ValAt P ops C a0 i V):
 wpOp P ops Q i (fun a' u'=>Stands ops C n h V Z T a0 w0 (listed.setIfInBounds i true) a' u') a u:=by
 obtain⟨inv,g,hc,hC,hb,hnew,hdis⟩:=hst;obtain⟨o,c,ho,hcc,hw1,hw2⟩:=hv;obtain⟨hun,o',ho',hall⟩:=mem_ready.1 hr;obtain rfl:o'=o:=Option.some.inj (ho'.symm.trans ho);have hunf:=getD_both hun
 have hlt:=fun j hj=>xzff inv j hj
 have hsz:a.tmps.size=c.tmps.size:=hc.2.1.trans hcc.2.1.symm
 have hlook:∀ t∈o'.looksAt ops,a.tmps.getD t undef=c.tmps.getD t undef:=fun t ht=>by
  by_cases hwr:∃ j oj,j<h/\ops[j]? =some oj/\oj.dst=some t/\j≠i
  ·obtain⟨j,oj,hj,hoj,hd,hne⟩:=hwr
   obtain⟨h1,h2,h3⟩:=xzek hK hi ho ht hj hoj hd hne;obtain⟨oi,hoi,e,he,hbd,hon⟩:=Region.waitsFor_spec h3;obtain rfl:oi=o':=Option.some.inj (hoi.symm.trans ho);have hl:=hall e he hbd;rw [hon]at hl;rw [hc.2.2.1 j oj t hoj hl hd,hcc.2.2.1 j oj t hoj (by simpa using h1) hd];exact if_pos h2
  ·have hn1:∀ j oj,ops[j]? =some oj->listed.getD j false=true->oj.dst≠some t:=fun j oj hoj hl hd=>by
    by_cases e:j=i
    ·subst e;rw [hunf]at hl;cases hl
    ·exact hwr ⟨j,oj,hlt j hl,hoj,hd,e⟩
   have hn2:∀ j oj,ops[j]? =some oj->decide (j<i)=true->oj.dst≠some t:=fun j oj hoj hl hd=>
    hwr ⟨j,oj,by have:=of_decide_eq_true hl;omega,hoj,hd,by have:=of_decide_eq_true hl;omega⟩
   rw [hc.2.2.2 t hn1,hcc.2.2.2 t hn2]
 obtain⟨hex,hwa⟩:=xzgz (ops:=ops) (Region.noSelect_spec hsel i o' · · ho) hsz hlook
 have hset:∀ x,x=V i->∀ u',Below u.heap.size u u'->Stands ops C n h V Z T a0 w0 (listed.setIfInBounds i true) (a.put o'.dst x) u':=fun x hx u' hbu=>by
  refine⟨inv.set hr (by omega),g,?_,hCs _ _ hC hbu,hb.trans (hbu.mono hb.size),fun j h1 h2 h3=>?_,fun j k h1 h2 h3 h4 h5=>?_⟩
  ·refine hc.put hD hN (fun j hj=>hlt j hj) (by omega) ho hunf x (fun j=>?_) (fun j _=>rfl) (by rw [hx];exact if_pos hi)
   by_cases e:j=i
   ·subst e
    have:j<listed.size:=by rw [inv.size];omega
    simp [this]
   ·rw [getD_set_ne false (Ne.symm e)];simp [e]
  ·rw [getD_set_ne false (by omega)]at h3
   obtain⟨k1,k2⟩:=hnew j h1 h2 h3;exact⟨k1,k2.step hbu⟩
  ·rw [getD_set_ne false (by omega)]at h4 h5
   exact hdis j k h1 h2 h3 h4 h5
 unfold wpOp;simp only [ho]
 by_cases hw:Region.wanted o' (yielded ops c.tmps)=true
 ·rw [if_pos (by rw [hwa];exact hw)]
  refine .inl ?_;have hf:=hw1 hw u hC;unfold freeAt at hf;rw [<-hex]at hf;unfold Oper.wp;generalize(execOp a.eval o').run P u=r at hf
  cases r with
  |ok nx w'=>
   cases nx<;>simp only [freeUpon]at hf<;>simp only [Oper.upon]
   case value x=>exact hset x hf.2 w' hf.1
   case skip=>exact hset undef hf.2.symm w' hf.1
   case enter f args=>
    obtain⟨rfl,hcall⟩:=hf
    exact hcall.mono fun e w'' ⟨he,hbw⟩=>by subst he;exact hset (V i) rfl w'' hbw
  |halt x w'=>simp only [freeUpon]at hf
 ·rw [if_neg (by rw [hwa];exact hw)]
  exact hset undef (hw2 (by simpa using hw)).symm u (Below.refl _ _)
theorem xzup (hh:h<=ops.size)(hD:distinctB ops h N=true)(hN:a0.tmps.size=N)
 (hCs:∀ u u',C u->Below u.heap.size u u'->C u'){Q:Exit->Act->World->Prop}{listed:Array Bool}{a:Act}{u:World}(hst:Stands ops C n h V Z T a0 w0 listed a u)
 {i:Nat} {o:Oper} (hi1:n<=i) (hi2:i<h) (ho:ops[i]? =some o) (hg:o.guard=none) (hr:i∈Region.ready .any ops listed)
 (hrun:∀ (a:Act) (u:World),(execOp a.eval o).run P u=.ok (.value (.pointer (some ⟨u.heap.size,0,none⟩))) (u.alloc (.cells (Z i) (T i)))):
 wpOp P ops Q i (fun a' u'=>Stands ops C n h V Z T a0 w0 (listed.setIfInBounds i true) a' u') a u:=by
 obtain⟨inv,g,hc,hC,hb,hnew,hdis⟩:=hst;have hun:=(mem_ready.1 hr).1;have hunf:=getD_both hun
 have hlt:=fun j hj=>xzff inv j hj
 have hbu:Below u.heap.size u (u.alloc (.cells (Z i) (T i))):=(Below.refl _ _).alloc (Nat.le_refl _) _;unfold wpOp;simp only [ho];rw [if_pos (by simp [Region.wanted,hg])];refine .inl ?_;unfold Oper.wp;rw [hrun];simp only [Oper.upon];refine⟨inv.set hr hi2,fun j=>if j=i then u.heap.size else g j,?_,hCs _ _ hC hbu,hb.trans (hbu.mono hb.size),fun j h1 h2 h3=>?_,fun j k h1 h2 h3 h4 h5=>?_⟩
 ·refine hc.put hD hN (fun j hj=>hlt j hj) hi2 ho hunf _ (fun j=>?_) (fun j hj=>?_) (by show(if i<n then V i else Value.pointer (some ⟨if i=i then u.heap.size else g i,0,none⟩))=_;rw [if_neg (by omega),if_pos rfl])
  ·by_cases e:j=i
   ·subst e
    have:j<listed.size:=by rw [inv.size];omega
    simp [this]
   ·rw [getD_set_ne false (Ne.symm e)];simp [e]
  ·have hne:j≠i:=fun e=>by subst e;rw [hunf]at hj;cases hj
   simp [hne]
 ·by_cases e:j=i
  ·subst e
   simp only [if_pos];exact⟨hb.size,BlkIs.new u _ _⟩
  ·rw [getD_set_ne false (Ne.symm e)]at h3
   obtain⟨k1,k2⟩:=hnew j h1 h2 h3;simp only [if_neg e];exact⟨k1,k2.step hbu⟩
 ·by_cases e:j=i
  ·subst e
   have hkj:k≠j:=by omega
   rw [getD_set_ne false (Ne.symm hkj)]at h5;have:=(hnew k (by omega) h3 h5).2.lt;simp only [if_pos,if_neg hkj];omega
  ·by_cases e2:k=i
   ·subst e2
    rw [getD_set_ne false (Ne.symm e)]at h4;have:=(hnew j h1 (by omega) h4).2.lt;simp only [if_neg e,if_pos];omega
   ·rw [getD_set_ne false (Ne.symm e)]at h4
    rw [getD_set_ne false (Ne.symm e2)]at h5;simp only [if_neg e,if_neg e2];exact hdis j k h1 h2 h3 h4 h5
end step
theorem xzel {listed:Array Bool}{h:Nat}(hz:toCome listed h=0):∀ i,i<h->listed.getD i false=true:=fun i hi=>by
 cases hl:listed.getD i false with
 |true=>rfl
 |false=>
  have hm:i∈(List.range h).filter fun i=> !listed.getD i false:=List.mem_filter.2 ⟨List.mem_range.2 hi,by rw [hl];rfl⟩
  have:=List.length_pos_of_mem hm;unfold toCome at hz;omega
theorem xzem {h:Nat}{listed:Array Bool}(hh:h<=ops.size)(hA:acycB ops h=true)(hs:listed.size=ops.size):∀ (k i:Nat),i<=k->i<h->listed.getD i false=false->∃ j,j∈Region.ready .any ops listed:=by
 intro k
 induction k with
 |zero=>
  intro i hk hi hu
  have h0:i=0:=by omega
  subst h0;obtain⟨o,ho⟩:∃ o,ops[0]? =some o:=⟨_,Array.getElem?_eq_getElem (by omega)⟩;exact⟨0,mem_ready.2 ⟨getD_in (by omega) hu,o,ho,fun e he hb=>absurd (xzlt hA hi ho e he hb) (by omega)⟩⟩
 |succ k ih=>
  intro i hk hi hu
  by_cases hall:∀ j,j<i->listed.getD j false=true
  ·obtain⟨o,ho⟩:∃ o,ops[i]? =some o:=⟨_,Array.getElem?_eq_getElem (by omega)⟩
   exact⟨i,mem_ready.2 ⟨getD_in (by omega) hu,o,ho,fun e he hb=>hall _ (xzlt hA hi ho e he hb)⟩⟩
  ·obtain⟨j,hj⟩:=Classical.not_forall.1 hall
   have hji:j<i:=Classical.byContradiction fun h=>hj fun h'=>absurd h' h
   have hju:listed.getD j false=false:=by
    cases hl:listed.getD j false with
    |false=>rfl
    |true=>exact absurd (fun _=>hl) hj
   exact ih j (by omega) (by omega) hju
theorem xzen {h:Nat}{listed:Array Bool}(inv:HeadInv .any ops h listed)(hall:∀ i,i<h->listed.getD i false=true):listed=headArr ops.size h:=by
 have hs:listed.size=(headArr ops.size h).size:=by rw [inv.size];simp [headArr]
 apply Array.ext hs
 intro i h1 h2
 have e1:listed.getD i false=listed[i]:=by simp [h1]
 have e2:(headArr ops.size h).getD i false=(headArr ops.size h)[i]:=by simp [h2]
 have hi:i<ops.size:=by rw [<-inv.size];exact h1
 rw [<-e1,<-e2,xzca,if_pos hi]
 by_cases hlt:i<h
 ·rw [hall i hlt];simp [hlt]
 ·rw [getD_both (inv.tail i (by omega) hi)];simp [hlt]
section run
variable {n h N : Nat} {V : Nat → Value} {Z : Nat → Array Value} {T : Nat → TypeId} {a0 : Act} {w0 : World} {Q : Exit → Act → World → Prop}
theorem yzab (hB:freeB ops n h N=true)(hN:a0.tmps.size=N)(hCs:∀ u u',C u->Below u.heap.size u u'->C u')
 (hV:∀ i,i<n->ValAt P ops C a0 i V)
 (hnew:∀ i o,n<=i->i<h->ops[i]? =some o->o.guard=none/\∀ (a:Act) (u:World),(execOp a.eval o).run P u=.ok (.value (.pointer (some ⟨u.heap.size,0,none⟩))) (u.alloc (.cells (Z i) (T i))))
 (hend:∀ a u,Stands ops C n h V Z T a0 w0 (headArr ops.size h) a u->wpList P ops Q (ops.toList.drop h) a u):
 ∀ (d:Nat) (listed:Array Bool) (a:Act) (u:World),toCome listed h=d->Stands ops C n h V Z T a0 w0 listed a u->wpAny P .any ops Q (d+(ops.size - h)) listed a u:=by
 simp only [freeB,Bool.and_eq_true,Bool.or_eq_true,decide_eq_true_eq]at hB;obtain⟨⟨⟨⟨⟨⟨⟨hsel,hnh⟩,hh⟩,hD⟩,hK⟩,hA⟩,hT⟩,hS⟩:=hB;intro d
 induction d with
 |zero=>
  intro listed a u hd hst;have hl:=xzen hst.1 (xzel hd);subst hl;have:=wpAny_of_seq (md:=.any) (Q':=Q) (ops.toList.drop h) h (headArr ops.size h) a u (fun j=>by simp) (by simpa using hS) (hend a u hst)
  simpa using this
 |succ d ih=>
  intro listed a u hd hst
  have hex:∃ i,i<h/\listed.getD i false=false:=by
   have hpos:0<((List.range h).filter fun i=> !listed.getD i false).length:=by unfold toCome at hd;omega
   obtain⟨i,hi⟩:=List.exists_mem_of_length_pos hpos;rw [List.mem_filter]at hi;exact⟨i,List.mem_range.1 hi.1,by simpa using hi.2⟩
  obtain⟨i0,hi0,hu0⟩:=hex;have hs:=hst.1.size;obtain⟨j0,hj0⟩:=xzem hh hA hs i0 i0 (Nat.le_refl _) hi0 hu0;rw [show d+1+(ops.size - h)=(d+(ops.size - h))+1 by omega];refine⟨fun he=>(by rw [he]at hj0;cases hj0),fun i hi=>?_⟩
  have hil:i<ops.size:=by
   obtain⟨_,o,ho,_⟩:=mem_ready.1 hi;exact(Array.getElem?_eq_some_iff.1 ho).1
  have hih:i<h:=by
   rcases Nat.lt_or_ge i h with hlt|hge
   ·exact hlt
   ·rcases hT with hT|hT
    ·omega
    ·exact absurd hi (tail_waits hT.1 hT.2 (by omega) hst.1 (h - i0) i0 rfl hi0 (getD_in (by omega) hu0) i hge)
  have hun:=getD_both (mem_ready.1 hi).1;have hset:=xzfe hih (by omega) hun
  have hnext:∀ a' u',Stands ops C n h V Z T a0 w0 (listed.setIfInBounds i true) a' u'->wpAny P .any ops Q (d+(ops.size - h)) (listed.setIfInBounds i true) a' u':=
   fun a' u' hst'=>ih _ a' u' (by omega) hst'
  rcases Nat.lt_or_ge i n with hlt|hge
  ·exact wpOp_mono hnext (xzuo hsel hnh hh hD hK hN hCs hst hlt hi (hV i hlt))
  ·obtain⟨o,ho⟩:∃ o,ops[i]? =some o:=⟨_,Array.getElem?_eq_getElem hil⟩
   obtain⟨hg,hrun⟩:=hnew i o hge hih ho;exact wpOp_mono hnext (xzup hh hD hN hCs hst hge hih ho hg hi hrun)
end run
def putNews:List Oper->Nat->(Nat->Nat)->Act->Act
 |[],_,_,a=>a
 |o::l,k,g,a=>putNews l (k+1) g (a.put o.dst (.pointer (some ⟨g k,0,none⟩)))
theorem xzqb {h N:Nat}{a0:Act}(hD:distinctB ops h N=true)(hN:a0.tmps.size=N)(g:Nat->Nat)(n:Nat)(V:Nat->Value):∀ (l:List Oper) (k:Nat) (a:Act),n<=k->k+l.length<=h->(∀ j,j<l.length->l[j]? =ops[k+j]?)->
 Came ops (fun j=>decide (j<k)) (fun i=>if i<n then V i else .pointer (some ⟨g i,0,none⟩)) a0 a->
 Came ops (fun j=>decide (j<k+l.length)) (fun i=>if i<n then V i else .pointer (some ⟨g i,0,none⟩)) a0 (putNews l k g a)
 |[],_,_,_,_,_,hc=>hc
 |o::l,k,a,hnk,hk,hl,hc=>by
  have h0:ops[k]? =some o:=by simpa using(hl 0 (by simp)).symm
  have hlen:(o::l).length=l.length+1:=rfl
  have hc':=hc.put (L':=fun j=>decide (j<k+1)) (v':=fun i=>if i<n then V i else .pointer (some ⟨g i,0,none⟩)) hD hN (fun i hi=>by have:=of_decide_eq_true hi;omega) (show k<h by omega) h0 (by simp) (.pointer (some ⟨g k,0,none⟩))
   (fun j=>by rw [Bool.eq_iff_iff];simp;omega) (fun _ _=>rfl) (by show(if k<n then _ else _)=_;rw [if_neg (by omega)])
  have:=xzqb hD hN g n V l (k+1) _ (by omega) (by omega) (fun j hj=>by have:=hl (j+1) (by simp;omega);simpa [Nat.add_assoc,Nat.add_comm 1 j]using this) hc';rw [show k+(o::l).length=k+1+l.length by omega];exact this
theorem xzdg {id:Nat}{l:List Oper}{Q:Exit->Act->World->Prop}{a:Act}{w:World}(n h N:Nat)(C:World->Prop)(Z:Nat->Array Value)(T:Nat->TypeId)
 (hm:P.follows .mixedOrders=true)(hB:freeB l.toArray n h N=true)(hN:a.tmps.size=N)(hC0:C w.drew)(hCs:∀ u u',C u->Below u.heap.size u u'->C u')
 (hnew:∀ i o,n<=i->i<h->l[i]? =some o->o.guard=none/\∀ (a:Act) (u:World),(execOp a.eval o).run P u=.ok (.value (.pointer (some ⟨u.heap.size,0,none⟩))) (u.alloc (.cells (Z i) (T i))))
 (H:FreeW P l.toArray C (fun c=>∀ (g:Nat->Nat) (u:World),C u->Below w.heap.size w u->(∀ i,n<=i->i<h->w.heap.size<=g i/\BlkIs u (g i) (T i) (Z i))->(∀ i j,n<=i->i<j->j<h->g i≠g j)->
  wpList P l.toArray Q (l.drop h) (putNews ((l.drop n).take (h - n)) n g c) u) (l.take n) a):(Code.region id l.toArray true).wp P Q a w:=by
 have hB':=hB;simp only [freeB,Bool.and_eq_true,Bool.or_eq_true,decide_eq_true_eq]at hB';obtain⟨⟨⟨⟨⟨⟨⟨hsel,hnh⟩,hh⟩,hD⟩,hK⟩,hA⟩,hT⟩,hS⟩:=hB'
 have hh':h<=l.length:=by simpa using hh
 have hlen:(l.take n).length=n:=by simp;omega
 have hc0:Came l.toArray (fun j=>decide (j<0)) (fun _=>undef) a a:=
  ⟨rfl,rfl,fun i o t _ hi=>by simp at hi,fun _ _=>rfl⟩
 obtain⟨V,c,_,hV,hcV,hK2⟩:=xzgq hD hN (l.take n) 0 a _ _ (fun j hj=>by rw [hlen]at hj;simp [hj]) (by omega) hc0 H;rw [hlen]at hV hcV;simp only [Nat.zero_add]at hV hcV;refine wp_region_any hm ?_
 have inv0:HeadInv .any l.toArray h (Array.replicate l.toArray.size false):=
  ⟨by simp,fun j oj _ hl=>(by rw [getD_replicate_false]at hl;cases hl),fun t _ ht=>getD_in (by simpa using ht) (getD_replicate_false _ _)⟩
 have hst0:Stands l.toArray C n h V Z T a w (Array.replicate l.toArray.size false) a w.drew:=by
  refine⟨inv0,fun _=>0,⟨rfl,rfl,fun i o t _ hi=>?_,fun _ _=>rfl⟩,hC0,(Below.refl _ _).drew,fun i _ _ hl=>?_,fun i j _ _ _ hl=>?_⟩
  ·have hi':(Array.replicate l.toArray.size false).getD i false=true:=hi
   rw [getD_replicate_false]at hi';cases hi'
  ·rw [getD_replicate_false]at hl;cases hl
  ·rw [getD_replicate_false]at hl;cases hl
 have hcome:toCome (Array.replicate l.toArray.size false) h=h:=by
  unfold toCome;rw [List.filter_eq_self.2 (fun i _=>by rw [getD_replicate_false];rfl)]
  simp
 have:=yzab (P:=P) (Q:=Q) hB hN hCs (fun i hi=>hV i (Nat.zero_le _) hi) (fun i o h1 h2 h3=>hnew i o h1 h2 (by simpa using h3)) (fun a' u hst=>?_) h _ a w.drew hcome hst0
 ·rw [show h+(l.toArray.size - h)=l.toArray.size by omega]at this
  exact this
 ·obtain⟨inv,g,hc,hC,hb,hn,hdis⟩:=hst
  have hg:∀ i,i<h->(headArr l.toArray.size h).getD i false=true:=fun i hi=>by rw [xzca,if_pos (by omega)];simpa using hi
  have hcall:Came l.toArray (fun j=>decide (j<h)) (fun i=>if i<n then V i else .pointer (some ⟨g i,0,none⟩)) a a':=by
   refine⟨hc.1,hc.2.1,fun i o t ho hi ht=>hc.2.2.1 i o t ho (hg i (of_decide_eq_true hi)) ht,fun t ht=>hc.2.2.2 t fun i o ho hi=>ht i o ho ?_⟩;have:=xzff inv i hi
   simpa using this
  have hcn:=xzqb hD hN g n V ((l.drop n).take (h - n)) n c (Nat.le_refl _) (by simp;omega) (fun j hj=>by
   have hj':j<h - n:=by simp at hj;omega
   simp [hj']) (hcV.congr fun j hj=>by have:=of_decide_eq_true hj;rw [if_pos this])
  rw [show n+((l.drop n).take (h - n)).length=h by simp;omega]at hcn;have he:=hcall.unique hcn (fun _ _=>rfl);subst he;have:=hK2 g u hC hb (fun i h1 h2=>hn i h1 h2 (hg i h2)) (fun i j h1 h2 h3=>hdis i j h1 h2 h3 (hg i (by omega)) (hg j h3))
  simpa using this
theorem xzbp {id:Nat}{l:List Oper}{Q:Exit->Act->World->Prop}{a:Act}{w:World}(N:Nat)(C:World->Prop)
 (hm:P.follows .mixedOrders=true)(hB:freeB l.toArray l.length l.length N=true)(hN:a.tmps.size=N)(hC0:C w.drew)(hCs:∀ u u',C u->Below u.heap.size u u'->C u')
 (H:FreeW P l.toArray C (fun c=>∀ u:World,C u->Below w.heap.size w u->Q .normal c u) l a):(Code.region id l.toArray true).wp P Q a w:=
 xzdg l.length l.length N C (fun _=>#[]) (fun _=>0) hm hB hN hC0 hCs (fun i o h1 h2=>absurd h1 (by omega)) (by
  rw [List.take_length];refine xzhm (fun c hc=>?_) l a H;intro g u h1 h2 _ _;rw [List.drop_length,Nat.sub_self]
  exact hc u h1 h2)
end free
end
section
open Go.RowKit
def mems (m:Nat->Bool)(t:Nat):List Nat:=(List.range t).filter m
theorem xzkr {m:Nat->Bool}{t:Nat}:∀ (d:Nat),(∀ b,t<=b->b<t+d->m b=false)->mems m (t+d)=mems m t
 |0,_=>rfl
 |d+1,h=>by
  unfold mems;rw [show t+(d+1)=(t+d)+1 by omega,List.range_succ,List.filter_append];have:=xzkr d (fun b h1 h2=>h b h1 (by omega));unfold mems at this;rw [this,List.filter_cons,h (t+d) (by omega) (by omega)]
  simp
theorem xzqc {m:Nat->Bool}{t b:Nat}(htb:t<=b)(h:∀ c,t<=c->c<b->m c=false)(hb:m b=true):mems m (b+1)=mems m t++[b]:=by
 have h1:=xzkr (m:=m) (t:=t) (b - t) (fun c h1 h2=>h c h1 (by omega));rw [show t+(b - t)=b by omega]at h1;unfold mems at*;rw [List.range_succ,List.filter_append,h1]
 simp [hb]
theorem xzuq {m:Nat->Bool}{t t':Nat}(htb:t<=t')(h:∀ c,t<=c->c<t'->m c=false):mems m t'=mems m t:=by
 have h1:=xzkr (m:=m) (t:=t) (t' - t) (fun c h1 h2=>h c h1 (by omega))
 rwa [show t+(t' - t)=t' by omega]at h1
theorem xzjk {m:Nat->Bool}{t t':Nat}(h:t<=t'):mems m t<+:mems m t':=by
 unfold mems;obtain⟨d,rfl⟩:∃ d,t'=t+d:=⟨t' - t,by omega⟩;rw [List.range_add,List.filter_append];exact List.prefix_append _ _
def sFrom (m:Nat->Bool)(t:Nat):Nat->Bool:=fun b=>decide (t<=b)&&m b
theorem yzex {y:Nat}(h0:y≠0)(hy:y<18446744073709551616):∃ k q,Lib.ctz 64 y=k/\k<64/\y=2^k+2^(k+1)*q:=by
 obtain⟨q,h1,h2⟩:=Lib.ctzFrom_spec 64 y (by omega) (by simpa using hy);refine⟨Lib.ctzFrom 64 y,q,by unfold Lib.ctz;rw [if_neg h0],h2,?_⟩;generalize Lib.ctzFrom 64 y=k at*;rw [h1,Nat.mul_add,Nat.pow_succ,Nat.mul_one,Nat.mul_assoc];omega
theorem lowest (k q j:Nat):(2^k+2^(k+1)*q).testBit j=if j<k+1 then decide (j=k)else q.testBit (j - (k+1)):=by
 rw [Nat.add_comm,Nat.testBit_two_pow_mul_add _ (Nat.pow_lt_pow_right (by decide) (by omega))]
 split
 ·rw [Nat.testBit_two_pow];exact decide_eq_decide.2 ⟨fun h=>h.symm,fun h=>h.symm⟩
 ·rfl
theorem lost (k q:Nat):(2^k+2^(k+1)*q)&&& (2^k+2^(k+1)*q - 1)=2^(k+1)*q:=by
 have hp:0<2^k:=Nat.two_pow_pos k
 have e:2^k+2^(k+1)*q - 1=2^(k+1)*q+(2^k - 1):=by omega
 have hlt:2^k - 1<2^(k+1):=by rw [Nat.pow_succ];omega
 refine Nat.eq_of_testBit_eq fun j=>?_
 rw [Nat.testBit_and,lowest,e,Nat.testBit_two_pow_mul_add _ hlt,Nat.testBit_two_pow_mul]
 split
 ·rename_i h
  rw [Nat.testBit_two_pow_sub_one]
  by_cases e:j=k
  ·subst e;simp;intro h;omega
  ·simp [e];omega
 ·rename_i h
  have:k+1<=j:=by omega
  simp [this]
theorem yzey {m:Nat->Bool}{i t y:Nat}(h1:64*i<=t)(hy:y=wd (sFrom m t) i)(h0:y≠0):
 ∃ b,t<=b/\b<64*i+64/\Lib.ctz 64 y=b - 64*i/\m b=true/\(∀ c,t<=c->c<b->m c=false)/\y&&& (y - 1)=wd (sFrom m (b+1)) i:=by
 have hlt:y<18446744073709551616:=by rw [hy];exact xzgv _ _
 obtain⟨k,q,hk,hk64,hyk⟩:=yzex h0 hlt
 have hbit:∀ j,j<64->y.testBit j=(decide (t<=64*i+j)&&m (64*i+j)):=fun j hj=>by rw [hy,xzat];simp [hj,sFrom]
 have hkb:=hbit k hk64;rw [hyk,lowest,if_pos (by omega)]at hkb
 simp at hkb
 refine⟨64*i+k,hkb.1,by omega,by rw [hk];omega,hkb.2,fun c hc1 hc2=>?_,?_⟩
 ·have:=hbit (c - 64*i) (by omega)
  rw [hyk,lowest,if_pos (by omega),show 64*i+(c - 64*i)=c by omega]at this
  have e: ¬ c - 64*i=k:=by omega
  simpa [e,hc1]using this.symm
 ·rw [hyk,lost]
  refine xzsp (by rw [hyk]at hlt;exact Nat.lt_of_le_of_lt (Nat.le_add_left _ _) hlt) fun j hj=>?_
  rw [Nat.testBit_two_pow_mul];have hb2:=hbit j hj;rw [hyk,lowest]at hb2;unfold sFrom
  by_cases hjk:k+1<=j
  ·rw [if_neg (by omega)]at hb2
   have e1:64*i+k+1<=64*i+j:=by omega
   have e2:t<=64*i+j:=by omega
   simp [hjk,hb2,e1,e2]
  ·have e1: ¬ 64*i+k+1<=64*i+j:=by omega
   simp [hjk,e1]
theorem no_bit {m:Nat->Bool}{i t:Nat}(h1:64*i<=t)(hy:wd (sFrom m t) i=0):∀ c,t<=c->c<64*i+64->m c=false:=fun c hc1 hc2=>by
 have h:=xzat (sFrom m t) i (c - 64*i);rw [hy,Nat.zero_testBit,show 64*i+(c - 64*i)=c by omega]at h
 have e:c - 64*i<64:=by omega
 simpa [sFrom,e,hc1]using h.symm
end
section
open Go.RowKit
def Tab (w:World):Prop:=∀ j,j<64->w.cell? ⟨0,j,none⟩=some (.int .u8 (Lib.deBruijn64tab.getD j 0:Nat))
theorem Tab.below {B:Nat}{w w':World}(h:Tab w)(hb:Below B w w')(hB:0<B):Tab w':=fun j hj=>(hb.cell (p:=⟨0,j,none⟩) hB).trans (h j hj)
theorem Tab.pos {w:World}(h:Tab w):0<w.heap.size:=World.block_lt_of_cell? w _ (h 0 (by decide))
theorem Tab.step {w w':World}(h:Tab w)(hb:Below w.heap.size w w'):Tab w':=h.below hb h.pos
set_option maxHeartbeats 1000000 in
theorem tz_core (x k idx:Nat)(w:World)(hx0:((x:Int)==0)=false)
 (key:IntKind.u64.wrap (bits BinOp.and IntKind.u64 (x:Int) (IntKind.u64.wrap (-(x:Int)))*285870213051353865) / 288230376151711744=(idx:Int))
 (hi:idx<64)(hk:k<64)(hcell:w.cell? ⟨0,idx,none⟩=some (.int .u8 k)):
 Calls Tryz.prog 107 #[.int .u64 x] w fun e w'=>e=.returned (.int .i64 k)/\w'=w:=by
 go_enter Tryz.func107,Tryz.ntmps107
 go_wp2_with(simp only [key])
 go_ret;exact⟨rfl,rfl⟩
theorem tz_key (x a:Nat)(hx:x<18446744073709551616)(hx0:x≠0)(hlow:x&&& (18446744073709551616 - x)=a):
 IntKind.u64.wrap (bits BinOp.and IntKind.u64 (x:Int) (IntKind.u64.wrap (-(x:Int)))*285870213051353865) / 288230376151711744=((a*285870213051353865%18446744073709551616 / 288230376151711744:Nat):Int):=by
 have e1:IntKind.u64.wrap (-(x:Int))=((18446744073709551616 - x:Nat):Int):=by rw [IntKind.wrap_u64];omega
 rw [e1,u64_and_nat x _ hx (by omega),hlow,IntKind.wrap_u64];omega
theorem tz_any (x:Nat)(hx:x<18446744073709551616)(hx0:x≠0)(w:World)(hT:Tab w):
 Calls Tryz.prog 107 #[.int .u64 x] w fun e w'=>e=.returned (.int .i64 (Lib.ctz 64 x:Nat))/\w=w':=by
 obtain⟨hlow,hk⟩:=Lib.lowest_bit 64 x hx0 (by simpa using hx);obtain⟨hi,htab⟩:=Lib.deBruijn64_at _ hk;have hcell:=hT _ hi;rw [htab]at hcell
 exact(tz_core x _ _ w (by simp;omega) (tz_key x _ hx hx0 hlow) hi hk hcell).mono fun _ _ h=>⟨h.1,h.2.symm⟩
abbrev B256:={x:Nat // x<256}
theorem idx_any (m:Nat->Bool)(i:Nat)(hi:i<4)(w:World):(Instr.index 47 (setV m) (.int .i64 (i:Nat))).run Tryz.prog w=.ok (.int .u64 (wd m i:Nat)) w:=by
 have h:=xzpy m w
 have hc:i=0\/i=1\/i=2\/i=3:=by omega
 rcases hc with rfl|rfl|rfl|rfl
 ·exact h.1
 ·exact h.2.1
 ·exact h.2.2.1
 ·exact h.2.2.2
attribute [local go_sem] Oper.semAt_some
set_option maxHeartbeats 1000000 in
theorem yzez (n:Nat)(hn:1<=n)(l Bs n₀:Nat)(hn0:0<n₀)(m:Nat->Bool)(J Jx:List B256->World->Prop)
 (hY:∀ pre (x:B256) W,J pre W->pre.length<256->YieldAt Fence.wide (n - 1) Tryz.prog l #[.int .u8 x.1] W fun e W'=>
  (e=.returned (.bool true)/\J (pre++[x]) W'/\Below n₀ W W')\/(e=.returned (.bool false)/\Jx (pre++[x]) W'))
 (W:World)(hbox:BlkIs W Bs 47 #[.int .u64 (wd m 0:Nat),.int .u64 (wd m 1:Nat),.int .u64 (wd m 2:Nat),.int .u64 (wd m 3:Nat)])(hT:Tab W)(h0:J [] W):
 CallsIn Fence.wide n Tryz.prog 106 #[.func (.yield l) #[] #[],.pointer (some ⟨Bs,0,none⟩)] W fun e W'=>(∃ v,e=.returned v)/\
  ((∃ xs:List B256,xs.map (·.1)=mems m 256/\J xs W')\/(∃ pre:List B256,pre.map (·.1)<+:mems m 256/\Jx pre W')):=by
 obtain⟨c0,c1,c2,c3,_⟩:=hbox.four;have HY:=zd hY;have HT:=zd hT;have HJ:=zd h0;have HI:=zd (idx_any m);clear hbox hY hT h0;refine callsIn_of_wp Tryz.func106 rfl trivial ?_ rfl;simp only [Tryz.ntmps106,List.size_toArray,List.length_cons,List.length_nil,Nat.reduceAdd,Nat.reduceSub,Array.replicate_succ,Array.replicate_zero,List.push_toArray,List.append_toArray,List.nil_append,List.cons_append]
 gi_wp2
 clear c0 c1 c2 c3
 gi_loopw [6] (fun s wr=>∃ (i:Nat) (pre:List B256),i<=4/\s=.int .i64 i/\Hid (pre.map (·.1)=mems m (64*i)/\J pre wr/\Tab wr)) (fun s _=>4 - (intOf s).toNat)
 case atStart=>
  exact⟨0,[],by omega,rfl,zd ⟨rfl,HJ.out,HT.out⟩⟩
 case round=>
  obtain⟨i,pre,hi,rfl,HH⟩:=hrel
  by_cases hlt:i<4
  ·have hix:=HI.out i hlt
   have hdi:decide ((i:Int)<4)=true:=by simp;omega
   gi_wp2
   clear hix
   gi_loopw [4] (fun s wr=>∃ (y t:Nat) (pre:List B256),s=.int .u64 y/\y<18446744073709551616/\Hid (64*i<=t/\t<=64*i+64/\y=wd (sFrom m t) i/\pre.map (·.1)=mems m t/\J pre wr/\Tab wr)) (fun s _=>(intOf s).toNat)
   case atStart=>
    refine⟨wd m i,64*i,pre,rfl,xzgv _ _,zd ⟨Nat.le_refl _,by omega,xzbg fun j _=>?_,HH.out.1,HH.out.2.1,HH.out.2.2⟩⟩
    simp [sFrom]
   case round=>
    obtain⟨y,t,pre,rfl,hy,HH⟩:=hrel
    by_cases hz:y=0
    ·have b1:((y:Int)==0)=true:=by simp;omega
     have b2:((y:Int) != 0)=false:=by simp;omega
     gi_wp2
     subst hz;obtain⟨h1,h2,h3,h4,h5,h6⟩:=HH.out;exact⟨⟨i+1,pre,by omega,by go_num,zd ⟨by rw [h4,show 64*(i+1)=64*i+64 by omega];exact(xzuq h2 (fun c hc1 hc2=>no_bit h1 h3.symm c hc1 hc2)).symm,h5,h6⟩⟩,by simp [intOf];omega⟩
    ·obtain⟨b,h1,h2,h3,h4,h5,h6⟩:=yzey HH.out.1 HH.out.2.2.1 hz
     have b1:((y:Int)==0)=false:=by simp;omega
     have b2:((y:Int) != 0)=true:=by simp;omega
     obtain⟨g1,g2,g3,g4,g5,g6⟩:=HH.out
     have hb:b<256:=by omega
     have htz:=tz_any y hy hz wr g6;rw [h3]at htz
     have hk:b - 64*i<64:=by omega
     have hsum:(i:Int)*64+((b - 64*i:Nat):Int)=(b:Int):=by omega
     have hlen:pre.length<256:=by
      have e:pre.length=(mems m t).length:=by rw [<-g4,List.length_map]
      have:=List.length_filter_le m (List.range t);unfold mems at e;rw [List.length_range]at this;omega
     have hnext:(pre++[(⟨b,hb⟩:B256)]).map (·.1)=mems m (b+1):=by
      rw [List.map_append,g4,xzqc h1 h5 h4];rfl
     obtain⟨fn,tmps,assign,body,hy2,hR⟩:=HY.out pre ⟨b,hb⟩ wr g5 hlen;have hpre:mems m (b+1)<+:mems m 256:=xzjk (by omega);have hdec:y&&& (y - 1)<y:=Nat.lt_of_le_of_lt Nat.and_le_right (by omega)
     have hand:bits .and .u64 (y:Int) ((y:Int) - 1)=((y&&& (y - 1):Nat):Int):=by
      have:=u64_and_nat y (y - 1) hy (by omega);rw [<-this];congr 1;omega
     have HTZ:=zd htz;have HR:=zd hR;have HN:=zd hnext;have HP:=zd hpre;have HD:=zd hdec;have H6:=zd h6;have G6:=zd g6;have HA:=zd hand;clear htz hR hnext hpre hdec h6 g6 g4 g5 g3 HH h3 h4 h5 hlen hand;generalize hkk:b - 64*i=k at*;clear hkk
     dsimp only at hy2
     gi_wp2_with (first|(refine⟨trivial,?_⟩;gi_at_call 107;refine(callsIn_wide.2 HTZ.out).mono ?_;rintro e w' ⟨rfl,rfl⟩))
     refine HR.out.mono ?_;have hy1:0<y:=Nat.pos_of_ne_zero hz;rintro e W3 (⟨rfl,hJ3,hk3⟩|⟨rfl,hJx3⟩)
     ·have HK3:=zd hk3
      clear hk3 hsum hy2;have ha:=HA.out
      gi_wp2
      exact⟨⟨y&&& (y - 1),b+1,_,rfl,Nat.lt_trans HD.out hy,zd ⟨by omega,by omega,H6.out,HN.out,hJ3,G6.out.below HK3.out hn0⟩⟩,by simpa [intOf]using HD.out⟩
     ·gi_wp2
      refine bodyPost_ret (results_none rfl _ _ _) rfl ?_;exact⟨⟨_,rfl⟩,.inr ⟨_,by rw [HN.out];exact HP.out,hJx3⟩⟩
  ·have hi4:i=4:=by omega
   subst hi4
   gi_wp2
   go_end0
   exact⟨⟨_,rfl⟩,.inl ⟨pre,HH.out.1,HH.out.2.1⟩⟩
end
end Go.Proofs.YtgbljnnmhmlifaaGreatDoor
