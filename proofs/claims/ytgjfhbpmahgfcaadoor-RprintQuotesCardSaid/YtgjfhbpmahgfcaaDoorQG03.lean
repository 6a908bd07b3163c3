/-
 WHAT IS SAID OF NO PROGRAM: a region that draws its order, whose operations read, call and lay new variables, and store last: one walk in the order of the text serves every order. No condition but those of the theorem.
-/
import Derived.StillTail
import Derived.Lib.TrailingZeros
import Derived.Test.YtgjfhbpmahgfcaaDoorQG02
import Derived.Test.YtgjfhbpmahgfcaaDoorQG01
namespace Go.Proofs.YtgjfhbpmahgfcaaDoor
section
open Go.RowKit
section free
variable {P : Program} {ops : Array Oper} {C : World → Prop}
def freeUpon (P:Program)(w:World)(v:Value):Result Next->Prop
 | .ok (.value u) w'=>Below w.heap.size w w'/\u=v
 | .ok .skip w'=>Below w.heap.size w w'/\v=undef
 | .ok (.enter f args) w'=>w'=w/\Calls P f args w (fun e w''=>e=.returned v/\Below w.heap.size w w'')
 |_=>False
def freeAt (P:Program)(o:Oper)(a:Act)(w:World)(v:Value):Prop:=freeUpon P w v ((execOp a.eval o).run P w)
def FreeW (P:Program)(ops:Array Oper)(C:World->Prop)(Q:Act->Prop):List Oper->Act->Prop
 |[],a=>Q a
 |o::rest,a=>if Region.wanted o (yielded ops a.tmps)then ∃ v,(∀ w,C w->freeAt P o a w v)/\FreeW P ops C Q rest (a.put o.dst v)else FreeW P ops C Q rest (a.put o.dst undef)
def Came (ops:Array Oper)(L:Nat->Bool)(v:Nat->Value)(a0 a:Act):Prop:=
 a.defers=a0.defers/\a.tmps.size=a0.tmps.size/\
 (∀ i o t,ops[i]? =some o->L i=true->o.dst=some t->a.tmps.getD t undef=v i)/\
 (∀ t,(∀ i o,ops[i]? =some o->L i=true->o.dst≠some t)->a.tmps.getD t undef=a0.tmps.getD t undef)
theorem xzdh {a:Act}{t:Tmp}{v:Value}(h:t<a.tmps.size):(a.put (some t) v).tmps.getD t undef=v:=by
 simp [Act.put,h]
theorem xzbi {a:Act}{dst:Option Tmp}{t:Tmp}{v:Value}(h:dst≠some t):(a.put dst v).tmps.getD t undef=a.tmps.getD t undef:=by
 cases dst with
 |none=>rfl
 |some d=>
  have hne:d≠t:=fun e=>h (by rw [e])
  simp [Act.put,Array.getElem?_setIfInBounds_ne hne]
theorem xzky (a:Act)(dst:Option Tmp)(v:Value):(a.put dst v).tmps.size=a.tmps.size:=by
 cases dst<;>simp [Act.put]
theorem xzgs (a:Act)(dst:Option Tmp)(v:Value):(a.put dst v).defers=a.defers:=by
 cases dst<;>rfl
def distinctB (ops:Array Oper)(h N:Nat):Bool:=
 (List.range h).all fun i=>match (ops[i]?).bind (·.dst)with
  |none=>true
  |some t=>decide (t<N)&&(List.range h).all fun j=>decide (j=i)||decide ((ops[j]?).bind (·.dst)≠some t)
theorem xzbj {h N:Nat}(hB:distinctB ops h N=true){i:Nat}{o:Oper}{t:Tmp}(hi:i<h)(ho:ops[i]? =some o)(ht:o.dst=some t):
 t<N/\∀ j oj,j<h->ops[j]? =some oj->oj.dst=some t->j=i:=by
 have h1:=List.all_eq_true.1 hB i (List.mem_range.2 hi);simp only [ho,Option.bind_some,ht,Bool.and_eq_true,decide_eq_true_eq]at h1;refine⟨h1.1,fun j oj hj hoj htj=>?_⟩;have h2:=List.all_eq_true.1 h1.2 j (List.mem_range.2 hj);simp only [hoj,Option.bind_some,htj,Bool.or_eq_true,decide_eq_true_eq]at h2
 rcases h2 with h2|h2
 ·exact h2
 ·exact absurd rfl h2
theorem Came.put {h N:Nat}{L L':Nat->Bool}{v v':Nat->Value}{a0 a:Act}(hc:Came ops L v a0 a)(hB:distinctB ops h N=true)(hN:a0.tmps.size=N)
 (hL:∀ i,L i=true->i<h){i:Nat}{o:Oper}(hi:i<h)(ho:ops[i]? =some o)(hnot:L i=false)(x:Value)
 (hL':∀ j,L' j=(L j||decide (j=i)))(hv:∀ j,L j=true->v' j=v j)(hx:v' i=x):Came ops L' v' a0 (a.put o.dst x):=by
 obtain⟨h1,h2,h3,h4⟩:=hc;refine⟨(xzgs _ _ _).trans h1,(xzky _ _ _).trans h2,fun j oj t hoj hj ht=>?_,fun t ht=>?_⟩
 ·rw [hL']at hj
  by_cases e:j=i
  ·subst e
   obtain rfl:oj=o:=Option.some.inj (hoj.symm.trans ho);rw [ht,xzdh (by rw [h2,hN];exact(xzbj hB hi ho ht).1),hx]
  ·have hj':L j=true:=by simpa [e]using hj
   have hne:o.dst≠some t:=fun hd=>e ((xzbj hB hi ho hd).2 j oj (hL j hj') hoj ht)
   rw [xzbi hne,h3 j oj t hoj hj' ht,hv j hj']
 ·have hne:o.dst≠some t:=ht i o ho (by rw [hL'];simp)
  rw [xzbi hne]
  exact h4 t fun j oj hoj hj=>ht j oj hoj (by rw [hL',hj];rfl)
theorem Came.unique {L:Nat->Bool}{v v':Nat->Value}{a0 a a':Act}(hc:Came ops L v a0 a)(hc':Came ops L v' a0 a')(hv:∀ i,L i=true->v i=v' i):a=a':=by
 obtain⟨h1,h2,h3,h4⟩:=hc;obtain⟨k1,k2,k3,k4⟩:=hc';have hs:a.tmps.size=a'.tmps.size:=h2.trans k2.symm
 have hg:∀ t,a.tmps.getD t undef=a'.tmps.getD t undef:=fun t=>by
  by_cases hw:∃ i o,ops[i]? =some o/\L i=true/\o.dst=some t
  ·obtain⟨i,o,ho,hi,ht⟩:=hw
   rw [h3 i o t ho hi ht,k3 i o t ho hi ht,hv i hi]
  ·have hn:∀ i o,ops[i]? =some o->L i=true->o.dst≠some t:=fun i o ho hi ht=>hw ⟨i,o,ho,hi,ht⟩
   rw [h4 t hn,k4 t hn]
 have ht:a.tmps=a'.tmps:=by
  apply Array.ext hs
  intro i hi hi';have:=hg i
  simpa [hi,hi']using this
 cases a;cases a'
 simp_all
theorem Came.congr {L:Nat->Bool}{v v':Nat->Value}{a0 a:Act}(hc:Came ops L v a0 a)(hv:∀ i,L i=true->v' i=v i):Came ops L v' a0 a:=
 ⟨hc.1,hc.2.1,fun i o t ho hi ht=>by rw [hv i hi];exact hc.2.2.1 i o t ho hi ht,hc.2.2.2⟩
theorem xzip {o:Oper}{a c:Act}(hs:∀ cs b,o.op≠ .select cs b)(hz:a.tmps.size=c.tmps.size)(h:∀ t∈o.looksAt ops,a.tmps.getD t undef=c.tmps.getD t undef):
 execOp a.eval o=execOp c.eval o/\Region.wanted o (yielded ops a.tmps)=Region.wanted o (yielded ops c.tmps):=by
 refine⟨execOp_congr o hs fun x hx=>?_,?_⟩
 ·cases x with
  |tmp t=>exact h t (List.mem_append_left _ (List.mem_filterMap.2 ⟨.tmp t,by simpa using hx,rfl⟩))
  |_=>rfl
 ·unfold Region.wanted
  cases hg:o.guard with
  |none=>rfl
  |some gw=>
   obtain⟨g,want⟩:=gw
   have hy:yielded ops a.tmps g=yielded ops c.tmps g:=by
    unfold yielded
    cases ht:(ops[g]?).bind (·.dst)with
    |none=>rfl
    |some t=>
     have h1:=h t (by simp [Oper.looksAt,hg,ht])
     have h2:a.tmps[t]? =c.tmps[t]? :=by
      rcases Nat.lt_or_ge t a.tmps.size with hlt|hge
      ·have hlt':t<c.tmps.size:=hz▸hlt
       simp [hlt,hlt']at h1
       simp [hlt,hlt',h1]
      ·rw [Array.getElem?_eq_none hge,Array.getElem?_eq_none (hz▸hge)]
     simp only [Option.bind_some,h2]
   simp only [hy]
def looksB (ops:Array Oper)(n h:Nat):Bool:=
 (List.range n).all fun i=>match ops[i]? with
  |none=>false
  |some o=>(o.looksAt ops).all fun t=>(List.range h).all fun j=>decide (j=i)||decide ((ops[j]?).bind (·.dst)≠some t)||(decide (j<i)&&decide (j<n)&&Region.waitsFor .any ops i j)
theorem xzfi {n h:Nat}(hB:looksB ops n h=true){i:Nat}{o:Oper}(hi:i<n)(ho:ops[i]? =some o){t:Tmp}(ht:t∈o.looksAt ops){j:Nat}{oj:Oper}(hj:j<h)(hoj:ops[j]? =some oj)(hd:oj.dst=some t)(hne:j≠i):
 j<i/\j<n/\Region.waitsFor .any ops i j=true:=by
 have h1:=List.all_eq_true.1 hB i (List.mem_range.2 hi);simp only [ho]at h1;have h2:=List.all_eq_true.1 (List.all_eq_true.1 h1 t ht) j (List.mem_range.2 hj);simp only [hoj,Option.bind_some,hd,Bool.or_eq_true,Bool.and_eq_true,decide_eq_true_eq]at h2
 rcases h2 with(h2|h2)|h2
 ·exact absurd h2 hne
 ·exact absurd rfl h2
 ·exact⟨h2.1.1,h2.1.2,h2.2⟩
def acycB (ops:Array Oper)(h:Nat):Bool:=
 (List.range h).all fun i=>match ops[i]? with
  |some o=>o.after.all fun e=> !Region.binds .any e||decide (e.on<i)
  |none=>false
theorem xzdi {h:Nat}(hB:acycB ops h=true){i:Nat}{o:Oper}(hi:i<h)(ho:ops[i]? =some o):∀ e∈o.after,Region.binds .any e=true->e.on<i:=fun e he hb=>by
 have h1:=List.all_eq_true.1 hB i (List.mem_range.2 hi);simp only [ho]at h1;have h2:=Array.all_eq_true_iff_forall_mem.1 h1 e he
 simpa [hb]using h2
def headArr (n h:Nat):Array Bool:=((List.range n).map fun i=>decide (i<h)).toArray
theorem xzcl (n h i:Nat)(b:Bool):(headArr n h).getD i b=if i<n then decide (i<h)else b:=by
 unfold headArr
 by_cases hi:i<n
 ·simp [hi]
 ·simp [hi]
def freeB (ops:Array Oper)(n h N:Nat):Bool:=
 Region.noSelect ops&&decide (n<=h)&&decide (h<=ops.size)&&distinctB ops h N&&looksB ops n h&&acycB ops h&&
  (decide (h=ops.size)||(Region.sinkB .any ops h&&Region.chainB .any ops h))&&Region.seqB .any ops (ops.size - h) h (headArr ops.size h)
def toCome (listed:Array Bool)(h:Nat):Nat:=((List.range h).filter fun i=> !listed.getD i false).length
theorem xzcm {p q:Nat->Bool}{i:Nat}:∀ (l:List Nat),l.Nodup->i∈l->p i=true->q i=false->(∀ j,j≠i->q j=p j)->(l.filter q).length+1=(l.filter p).length
 |[],_,h,_,_,_=>by cases h
 |x::l,hn,h,hp,hq,hj=>by
  rw [List.nodup_cons]at hn
  by_cases e:x=i
  ·subst e
   have hf:l.filter q=l.filter p:=List.filter_congr fun j hjl=>hj j (fun e=>hn.1 (by rw [<-e];exact hjl))
   simp [hp,hq,hf]
  ·have h':i∈l:=by
    rcases List.mem_cons.1 h with h|h
    ·exact absurd h.symm e
    ·exact h
   have ih:=xzcm l hn.2 h' hp hq hj;rw [List.filter_cons,List.filter_cons,hj x e]
   split
   ·simp only [List.length_cons];omega
   ·exact ih
theorem xzgt {listed:Array Bool}{h i:Nat}(hi:i<h)(hs:i<listed.size)(hu:listed.getD i false=false):toCome (listed.setIfInBounds i true) h+1=toCome listed h:=by
 unfold toCome;refine xzcm (i:=i) _ List.nodup_range (List.mem_range.2 hi) (by rw [hu];rfl) (by simp [hs]) (fun j hj=>by rw [getD_set_ne false (Ne.symm hj)])
theorem xzjz {n:Nat}{listed:Array Bool}(inv:HeadInv .any ops n listed)(i:Nat)(hi:listed.getD i false=true):i<n:=by
 rcases Nat.lt_or_ge i n with hlt|hge
 ·exact hlt
 ·rcases Nat.lt_or_ge i ops.size with h1|h1
  ·have:=getD_both (inv.tail i hge h1)
   rw [this]at hi;cases hi
  ·have hs:listed.size<=i:=by rw [inv.size];exact h1
   simp [Array.getElem?_eq_none hs]at hi
section step
variable {n h N : Nat} {V : Nat → Value} {Z : Nat → Array Value} {T : Nat → TypeId} {a0 : Act} {w0 : World}
end step
theorem xzfj {listed:Array Bool}{h:Nat}(hz:toCome listed h=0):∀ i,i<h->listed.getD i false=true:=fun i hi=>by
 cases hl:listed.getD i false with
 |true=>rfl
 |false=>
  have hm:i∈(List.range h).filter fun i=> !listed.getD i false:=List.mem_filter.2 ⟨List.mem_range.2 hi,by rw [hl];rfl⟩
  have:=List.length_pos_of_mem hm;unfold toCome at hz;omega
theorem xzfk {h:Nat}{listed:Array Bool}(hh:h<=ops.size)(hA:acycB ops h=true)(hs:listed.size=ops.size):∀ (k i:Nat),i<=k->i<h->listed.getD i false=false->∃ j,j∈Region.ready .any ops listed:=by
 intro k
 induction k with
 |zero=>
  intro i hk hi hu
  have h0:i=0:=by omega
  subst h0;obtain⟨o,ho⟩:∃ o,ops[0]? =some o:=⟨_,Array.getElem?_eq_getElem (by omega)⟩;exact⟨0,mem_ready.2 ⟨getD_in (by omega) hu,o,ho,fun e he hb=>absurd (xzdi hA hi ho e he hb) (by omega)⟩⟩
 |succ k ih=>
  intro i hk hi hu
  by_cases hall:∀ j,j<i->listed.getD j false=true
  ·obtain⟨o,ho⟩:∃ o,ops[i]? =some o:=⟨_,Array.getElem?_eq_getElem (by omega)⟩
   exact⟨i,mem_ready.2 ⟨getD_in (by omega) hu,o,ho,fun e he hb=>hall _ (xzdi hA hi ho e he hb)⟩⟩
  ·obtain⟨j,hj⟩:=Classical.not_forall.1 hall
   have hji:j<i:=Classical.byContradiction fun h=>hj fun h'=>absurd h' h
   have hju:listed.getD j false=false:=by
    cases hl:listed.getD j false with
    |false=>rfl
    |true=>exact absurd (fun _=>hl) hj
   exact ih j (by omega) (by omega) hju
theorem xzfl {h:Nat}{listed:Array Bool}(inv:HeadInv .any ops h listed)(hall:∀ i,i<h->listed.getD i false=true):listed=headArr ops.size h:=by
 have hs:listed.size=(headArr ops.size h).size:=by rw [inv.size];simp [headArr]
 apply Array.ext hs
 intro i h1 h2
 have e1:listed.getD i false=listed[i]:=by simp [h1]
 have e2:(headArr ops.size h).getD i false=(headArr ops.size h)[i]:=by simp [h2]
 have hi:i<ops.size:=by rw [<-inv.size];exact h1
 rw [<-e1,<-e2,xzcl,if_pos hi]
 by_cases hlt:i<h
 ·rw [hall i hlt];simp [hlt]
 ·rw [getD_both (inv.tail i (by omega) hi)];simp [hlt]
section run
variable {n h N : Nat} {V : Nat → Value} {Z : Nat → Array Value} {T : Nat → TypeId} {a0 : Act} {w0 : World} {Q : Exit → Act → World → Prop}
end run
end free
end
section
open Go.RowKit
def mems (m:Nat->Bool)(t:Nat):List Nat:=(List.range t).filter m
theorem xzcw {m:Nat->Bool}{t:Nat}:∀ (d:Nat),(∀ b,t<=b->b<t+d->m b=false)->mems m (t+d)=mems m t
 |0,_=>rfl
 |d+1,h=>by
  unfold mems;rw [show t+(d+1)=(t+d)+1 by omega,List.range_succ,List.filter_append];have:=xzcw d (fun b h1 h2=>h b h1 (by omega));unfold mems at this;rw [this,List.filter_cons,h (t+d) (by omega) (by omega)]
  simp
theorem xziq {m:Nat->Bool}{t b:Nat}(htb:t<=b)(h:∀ c,t<=c->c<b->m c=false)(hb:m b=true):mems m (b+1)=mems m t++[b]:=by
 have h1:=xzcw (m:=m) (t:=t) (b - t) (fun c h1 h2=>h c h1 (by omega));rw [show t+(b - t)=b by omega]at h1;unfold mems at*;rw [List.range_succ,List.filter_append,h1]
 simp [hb]
theorem xzkz {m:Nat->Bool}{t t':Nat}(htb:t<=t')(h:∀ c,t<=c->c<t'->m c=false):mems m t'=mems m t:=by
 have h1:=xzcw (m:=m) (t:=t) (t' - t) (fun c h1 h2=>h c h1 (by omega))
 rwa [show t+(t' - t)=t' by omega]at h1
theorem xzfm {m:Nat->Bool}{t t':Nat}(h:t<=t'):mems m t<+:mems m t':=by
 unfold mems;obtain⟨d,rfl⟩:∃ d,t'=t+d:=⟨t' - t,by omega⟩;rw [List.range_add,List.filter_append];exact List.prefix_append _ _
def sFrom (m:Nat->Bool)(t:Nat):Nat->Bool:=fun b=>decide (t<=b)&&m b
theorem xzla {y:Nat}(h0:y≠0)(hy:y<18446744073709551616):∃ k q,Lib.ctz 64 y=k/\k<64/\y=2^k+2^(k+1)*q:=by
 obtain⟨q,h1,h2⟩:=Lib.ctzFrom_spec 64 y (by omega) (by simpa using hy);refine⟨Lib.ctzFrom 64 y,q,by unfold Lib.ctz;rw [if_neg h0],h2,?_⟩;generalize Lib.ctzFrom 64 y=k at*;rw [h1,Nat.mul_add,Nat.pow_succ,Nat.mul_one,Nat.mul_assoc];omega
theorem lowest (k q j:Nat):(2^k+2^(k+1)*q).testBit j=if j<k+1 then decide (j=k)else q.testBit (j - (k+1)):=by
 rw [Nat.add_comm,Nat.testBit_two_pow_mul_add _ (Nat.pow_lt_pow_right (by decide) (by omega))]
 split
 ·rw [Nat.testBit_two_pow];exact decide_eq_decide.2 ⟨fun h=>h.symm,fun h=>h.symm⟩
 ·rfl
theorem lost (k q:Nat):(2^k+2^(k+1)*q)&&& (2^k+2^(k+1)*q - 1)=2^(k+1)*q:=by
 have hp:0<2^k:=Nat.two_pow_pos k
 have e:2^k+2^(k+1)*q - 1=2^(k+1)*q+(2^k - 1):=by omega
 have hlt:2^k - 1<2^(k+1):=by rw [Nat.pow_succ];omega
 refine Nat.eq_of_testBit_eq fun j=>?_
 rw [Nat.testBit_and,lowest,e,Nat.testBit_two_pow_mul_add _ hlt,Nat.testBit_two_pow_mul]
 split
 ·rename_i h
  rw [Nat.testBit_two_pow_sub_one]
  by_cases e:j=k
  ·subst e;simp;intro h;omega
  ·simp [e];omega
 ·rename_i h
  have:k+1<=j:=by omega
  simp [this]
theorem xzlb {m:Nat->Bool}{i t y:Nat}(h1:64*i<=t)(hy:y=wd (sFrom m t) i)(h0:y≠0):
 ∃ b,t<=b/\b<64*i+64/\Lib.ctz 64 y=b - 64*i/\m b=true/\(∀ c,t<=c->c<b->m c=false)/\y&&& (y - 1)=wd (sFrom m (b+1)) i:=by
 have hlt:y<18446744073709551616:=by rw [hy];exact xzgj _ _
 obtain⟨k,q,hk,hk64,hyk⟩:=xzla h0 hlt
 have hbit:∀ j,j<64->y.testBit j=(decide (t<=64*i+j)&&m (64*i+j)):=fun j hj=>by rw [hy,xzah];simp [hj,sFrom]
 have hkb:=hbit k hk64;rw [hyk,lowest,if_pos (by omega)]at hkb
 simp at hkb
 refine⟨64*i+k,hkb.1,by omega,by rw [hk];omega,hkb.2,fun c hc1 hc2=>?_,?_⟩
 ·have:=hbit (c - 64*i) (by omega)
  rw [hyk,lowest,if_pos (by omega),show 64*i+(c - 64*i)=c by omega]at this
  have e: ¬ c - 64*i=k:=by omega
  simpa [e,hc1]using this.symm
 ·rw [hyk,lost]
  refine xzkn (by rw [hyk]at hlt;exact Nat.lt_of_le_of_lt (Nat.le_add_left _ _) hlt) fun j hj=>?_
  rw [Nat.testBit_two_pow_mul];have hb2:=hbit j hj;rw [hyk,lowest]at hb2;unfold sFrom
  by_cases hjk:k+1<=j
  ·rw [if_neg (by omega)]at hb2
   have e1:64*i+k+1<=64*i+j:=by omega
   have e2:t<=64*i+j:=by omega
   simp [hjk,hb2,e1,e2]
  ·have e1: ¬ 64*i+k+1<=64*i+j:=by omega
   simp [hjk,e1]
theorem no_bit {m:Nat->Bool}{i t:Nat}(h1:64*i<=t)(hy:wd (sFrom m t) i=0):∀ c,t<=c->c<64*i+64->m c=false:=fun c hc1 hc2=>by
 have h:=xzah (sFrom m t) i (c - 64*i);rw [hy,Nat.zero_testBit,show 64*i+(c - 64*i)=c by omega]at h
 have e:c - 64*i<64:=by omega
 simpa [sFrom,e,hc1]using h.symm
end
end Go.Proofs.YtgjfhbpmahgfcaaDoor
