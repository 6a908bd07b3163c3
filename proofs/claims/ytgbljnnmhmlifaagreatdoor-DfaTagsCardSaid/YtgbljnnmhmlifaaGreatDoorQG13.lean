/-
 WHAT IS SAID OF NO PROGRAM: a region that draws its order, whose operations each turn memory in a way of their own, and store last: one walk in the order of the text serves every order, where what is said of each value abides what the others turn. No condition but those of the theorem.
-/
import Derived.Test.YtgbljnnmhmlifaaGreatDoorQG12
namespace Go.Proofs.YtgbljnnmhmlifaaGreatDoor
section
open Go.RowKit
section acts
variable {P : Program} {ops : Array Oper} {C : World → Prop}
def actUpon (P:Program)(w:World)(R:World->World->Prop)(V:Value->World->Prop):Result Next->Prop
 | .ok (.value v) w'=>R w w'/\V v w'
 | .ok (.enter f args) w'=>w'=w/\Calls P f args w (fun e w''=>∃ v,e=.returned v/\R w w''/\V v w'')
 |_=>False
theorem xzab {w w':World}{R:World->World->Prop}{V:Value->World->Prop}{x:Value}(hr:R w w')(h:V x w'):actUpon P w R V (.ok (.value x) w'):=⟨hr,h⟩
theorem xzbd {w:World}{R:World->World->Prop}{V:Value->World->Prop}{f:FuncId}{args:Array Value}(h:Calls P f args w (fun e w''=>∃ v,e=.returned v/\R w w''/\V v w'')):actUpon P w R V (.ok (.enter f args) w):=⟨rfl,h⟩
def StandsA (ops:Array Oper)(C:World->Prop)(h:Nat)(V:Nat->Value->World->Prop)(a0:Act)(listed:Array Bool)(a:Act)(u:World):Prop:=
 HeadInv .any ops h listed/\∃ vs:Nat->Value,Came ops (fun i=>listed.getD i false) vs a0 a/\C u/\(∀ i,i<h->listed.getD i false=true->V i (vs i) u)
def StepA (P:Program)(ops:Array Oper)(C:World->Prop)(R:Nat->World->World->Prop)(V:Nat->Value->World->Prop)(a0:Act)(i:Nat):Prop:=
 ∀ (vs:Nat->Value) (u:World),C u->(∀ j,j<i->Region.waitsFor .any ops i j=true->V j (vs j) u)->∀ o,ops[i]? =some o->o.guard=none/\actUpon P u (R i) (V i) ((execOp (textFrame ops vs a0 i).eval o).run P u)
variable {h N : Nat} {R : Nat → World → World → Prop} {V : Nat → Value → World → Prop} {a0 : Act}
theorem xzvr (hsel:Region.noSelect ops=true)(hh:h<=ops.size)(hD:distinctB ops h N=true)(hK:looksB ops h h=true)(hN:a0.tmps.size=N)
 (hCs:∀ i u u',i<h->C u->R i u u'->C u')(hVs:∀ i j v u u',i<h->j<h->i≠j->V i v u->R j u u'->V i v u'){Q:Exit->Act->World->Prop}{listed:Array Bool}{a:Act}{u:World}(hst:StandsA ops C h V a0 listed a u)
 {i:Nat} (hi:i<h) (hr:i∈Region.ready .any ops listed) (hv:StepA P ops C R V a0 i):
 wpOp P ops Q i (fun a' u'=>StandsA ops C h V a0 (listed.setIfInBounds i true) a' u') a u:=by
 obtain⟨inv,vs,hc,hC,hV⟩:=hst;have hcc:=xzdn hD hN hh vs i (by omega);obtain⟨hun,o',ho',hall⟩:=mem_ready.1 hr;have hunf:=getD_both hun
 have hlt:=fun j hj=>xzff inv j hj
 have hsz:a.tmps.size=(textFrame ops vs a0 i).tmps.size:=hc.2.1.trans hcc.2.1.symm
 have hwait:∀ j,j<i->Region.waitsFor .any ops i j=true->listed.getD j false=true:=fun j _ h3=>by
  obtain⟨oi,hoi,e,he,hbd,hon⟩:=Region.waitsFor_spec h3;obtain rfl:oi=o':=Option.some.inj (hoi.symm.trans ho');have hl:=hall e he hbd;rw [hon]at hl;exact hl
 have hlook:∀ t∈o'.looksAt ops,a.tmps.getD t undef=(textFrame ops vs a0 i).tmps.getD t undef:=fun t ht=>by
  by_cases hwr:∃ j oj,j<h/\ops[j]? =some oj/\oj.dst=some t/\j≠i
  ·obtain⟨j,oj,hj,hoj,hd,hne⟩:=hwr
   obtain⟨h1,h2,h3⟩:=xzek hK hi ho' ht hj hoj hd hne;have hl:=hwait j h1 h3;rw [hc.2.2.1 j oj t hoj hl hd,hcc.2.2.1 j oj t hoj (by simpa using h1) hd]
  ·have hn1:∀ j oj,ops[j]? =some oj->listed.getD j false=true->oj.dst≠some t:=fun j oj hoj hl hd=>by
    by_cases e:j=i
    ·subst e;rw [hunf]at hl;cases hl
    ·exact hwr ⟨j,oj,hlt j hl,hoj,hd,e⟩
   have hn2:∀ j oj,ops[j]? =some oj->decide (j<i)=true->oj.dst≠some t:=fun j oj hoj hl hd=>
    hwr ⟨j,oj,by have:=of_decide_eq_true hl;omega,hoj,hd,by have:=of_decide_eq_true hl;omega⟩
   rw [hc.2.2.2 t hn1,hcc.2.2.2 t hn2]
 obtain⟨hex,hwa⟩:=xzgz (ops:=ops) (Region.noSelect_spec hsel i o' · · ho') hsz hlook
 have hset:∀ (x:Value) (u':World),R i u u'->V i x u'->StandsA ops C h V a0 (listed.setIfInBounds i true) (a.put o'.dst x) u':=fun x u' hbu hx=>by
  refine⟨inv.set hr (by omega),fun j=>if j=i then x else vs j,?_,hCs _ _ _ hi hC hbu,fun j h1 h3=>?_⟩
  ·refine hc.put hD hN (fun j hj=>hlt j hj) hi ho' hunf x (fun j=>?_) (fun j hj=>?_) (by simp)
   ·by_cases e:j=i
    ·subst e
     have:j<listed.size:=by rw [inv.size];omega
     simp [this]
    ·rw [getD_set_ne false (Ne.symm e)];simp [e]
   ·have hne:j≠i:=fun e=>by subst e;rw [hunf]at hj;cases hj
    simp [hne]
  ·by_cases e:j=i
   ·subst e;simpa using hx
   ·rw [getD_set_ne false (Ne.symm e)]at h3
    simp only [if_neg e];exact hVs j i _ _ _ h1 hi e (hV j h1 h3) hbu
 obtain⟨hg,hf⟩:=hv vs u hC (fun j hj hw=>hV j (by omega) (hwait j hj hw)) o' ho';unfold wpOp;simp only [ho']
 have hw:Region.wanted o' (yielded ops a.tmps)=true:=by unfold Region.wanted;rw [hg]
 rw [if_pos hw];refine .inl ?_;rw [<-hex]at hf;unfold Oper.wp;generalize(execOp a.eval o').run P u=r at hf
 cases r with
 |ok nx w'=>
  cases nx<;>simp only [actUpon]at hf<;>simp only [Oper.upon]
  case value x=>exact hset x w' hf.1 hf.2
  case enter f args=>
   obtain⟨rfl,hcall⟩:=hf
   exact hcall.mono fun e w'' ⟨v,he,hbw,hvw⟩=>by subst he;exact hset v w'' hbw hvw
 |halt x w'=>simp only [actUpon]at hf
theorem yzfn {Q:Exit->Act->World->Prop}(hB:freeB ops h h N=true)(hN:a0.tmps.size=N)(hCs:∀ i u u',i<h->C u->R i u u'->C u')(hVs:∀ i j v u u',i<h->j<h->i≠j->V i v u->R j u u'->V i v u')
 (hS:∀ i,i<h->StepA P ops C R V a0 i)
 (hend:∀ a u,StandsA ops C h V a0 (headArr ops.size h) a u->wpList P ops Q (ops.toList.drop h) a u):
 ∀ (d:Nat) (listed:Array Bool) (a:Act) (u:World),toCome listed h=d->StandsA ops C h V a0 listed a u->wpAny P .any ops Q (d+(ops.size - h)) listed a u:=by
 simp only [freeB,Bool.and_eq_true,Bool.or_eq_true,decide_eq_true_eq]at hB;obtain⟨⟨⟨⟨⟨⟨⟨hsel,hnh⟩,hh⟩,hD⟩,hK⟩,hA⟩,hT⟩,hSq⟩:=hB;intro d
 induction d with
 |zero=>
  intro listed a u hd hst;have hl:=xzen hst.1 (xzel hd);subst hl;have:=wpAny_of_seq (md:=.any) (Q':=Q) (ops.toList.drop h) h (headArr ops.size h) a u (fun j=>by simp) (by simpa using hSq) (hend a u hst)
  simpa using this
 |succ d ih=>
  intro listed a u hd hst
  have hex:∃ i,i<h/\listed.getD i false=false:=by
   have hpos:0<((List.range h).filter fun i=> !listed.getD i false).length:=by unfold toCome at hd;omega
   obtain⟨i,hi⟩:=List.exists_mem_of_length_pos hpos;rw [List.mem_filter]at hi;exact⟨i,List.mem_range.1 hi.1,by simpa using hi.2⟩
  obtain⟨i0,hi0,hu0⟩:=hex;have hs:=hst.1.size;obtain⟨j0,hj0⟩:=xzem hh hA hs i0 i0 (Nat.le_refl _) hi0 hu0;rw [show d+1+(ops.size - h)=(d+(ops.size - h))+1 by omega];refine⟨fun he=>(by rw [he]at hj0;cases hj0),fun i hi=>?_⟩
  have hil:i<ops.size:=by
   obtain⟨_,o,ho,_⟩:=mem_ready.1 hi;exact(Array.getElem?_eq_some_iff.1 ho).1
  have hih:i<h:=by
   rcases Nat.lt_or_ge i h with hlt|hge
   ·exact hlt
   ·rcases hT with hT|hT
    ·omega
    ·exact absurd hi (tail_waits hT.1 hT.2 (by omega) hst.1 (h - i0) i0 rfl hi0 (getD_in (by omega) hu0) i hge)
  have hun:=getD_both (mem_ready.1 hi).1;have hset:=xzfe hih (by omega) hun;exact wpOp_mono (fun a' u' hst'=>ih _ a' u' (by omega) hst') (xzvr hsel hh hD hK hN hCs hVs hst hih hi (hS i hih))
theorem xzag {id:Nat}{l:List Oper}{Q:Exit->Act->World->Prop}{a:Act}{w:World}(h N:Nat)(C:World->Prop)(R:Nat->World->World->Prop)(V:Nat->Value->World->Prop)
 (hm:P.follows .mixedOrders=true)(hB:freeB l.toArray h h N=true)(hN:a.tmps.size=N)(hC0:C w.drew)(hCs:∀ i u u',i<h->C u->R i u u'->C u')(hVs:∀ i j v u u',i<h->j<h->i≠j->V i v u->R j u u'->V i v u')
 (hS:∀ i,i<h->StepA P l.toArray C R V a i)
 (hE:∀ (vs:Nat->Value) (u:World),C u->(∀ i,i<h->V i (vs i) u)->wpList P l.toArray Q (l.drop h) (textFrame l.toArray vs a h) u):(Code.region id l.toArray true).wp P Q a w:=by
 have hB':=hB;simp only [freeB,Bool.and_eq_true,Bool.or_eq_true,decide_eq_true_eq]at hB';obtain⟨⟨⟨⟨⟨⟨⟨hsel,hnh⟩,hh⟩,hD⟩,hK⟩,hA⟩,hT⟩,hSq⟩:=hB';refine wp_region_any hm ?_
 have inv0:HeadInv .any l.toArray h (Array.replicate l.toArray.size false):=
  ⟨by simp,fun j oj _ hl=>(by rw [getD_replicate_false]at hl;cases hl),fun t _ ht=>getD_in (by simpa using ht) (getD_replicate_false _ _)⟩
 have hst0:StandsA l.toArray C h V a (Array.replicate l.toArray.size false) a w.drew:=by
  refine⟨inv0,fun _=>undef,⟨rfl,rfl,fun i o t _ hi=>?_,fun _ _=>rfl⟩,hC0,fun i _ hl=>?_⟩
  ·have hi':(Array.replicate l.toArray.size false).getD i false=true:=hi
   rw [getD_replicate_false]at hi';cases hi'
  ·rw [getD_replicate_false]at hl;cases hl
 have hcome:toCome (Array.replicate l.toArray.size false) h=h:=by
  unfold toCome;rw [List.filter_eq_self.2 (fun i _=>by rw [getD_replicate_false];rfl)]
  simp
 have:=yzfn (P:=P) (Q:=Q) hB hN hCs hVs hS (fun a' u hst=>?_) h _ a w.drew hcome hst0
 ·rw [show h+(l.toArray.size - h)=l.toArray.size by omega]at this
  exact this
 ·obtain⟨inv,vs,hc,hC,hV⟩:=hst
  have hg:∀ i,i<h->(headArr l.toArray.size h).getD i false=true:=fun i hi=>by rw [xzca,if_pos (by omega)];simpa using hi
  have hcall:Came l.toArray (fun j=>decide (j<h)) vs a a':=by
   refine⟨hc.1,hc.2.1,fun i o t ho hi ht=>hc.2.2.1 i o t ho (hg i (of_decide_eq_true hi)) ht,fun t ht=>hc.2.2.2 t fun i o ho hi=>ht i o ho ?_⟩;have:=xzff inv i hi
   simpa using this
  have he:=hcall.unique (xzdn hD hN hh vs h (Nat.le_refl _)) (fun _ _=>rfl);subst he
  simpa using hE vs u hC (fun i hi=>hV i hi (hg i hi))
def putT:Option Tmp->Value->Array Value->Array Value
 |some d,v,t=>t.setIfInBounds d v
 |none,_,t=>t
def tmpsTo (ops:Array Oper)(vs:Nat->Value)(t:Array Value):Nat->Array Value
 |0=>t
 |i+1=>putT ((ops[i]?).bind (·.dst)) (vs i) (tmpsTo ops vs t i)
theorem xzaa (ops:Array Oper)(vs:Nat->Value)(a0:Act):∀ i,textFrame ops vs a0 i={a0 with tmps:=tmpsTo ops vs a0.tmps i}
 |0=>rfl
 |i+1=>by
  unfold textFrame tmpsTo;rw [xzaa ops vs a0 i]
  cases (ops[i]?).bind (·.dst)<;>rfl
theorem xzce {o:Oper}{ev:Operand->Value}{w w':World}{v xv v':Value}(s x:Operand)(t t2:TypeId)(hop:o.op=Op.call {callee:=Callee.builtin Builtin.append,args:=#[s,x],argTypes:=#[t,t2]})(hs:ev s=v)(hx:ev x=xv)
 (hrun:(Builtin.append_ #[t,t2] o.type #[v,xv]).run P w=.ok v' w'):(execOp ev o).run P w=.ok (.value v') w':=by
 unfold execOp;simp only [hop,resolve,invoke,builtin,Sem.run_bind,Sem.run_pure,Result.andThen_ok,List.map_toArray,List.map_cons,List.map_nil,hs,hx,hrun]
end acts
end
section
open Go.RowKit
attribute [local irreducible] FreeW textFrame
theorem IntsV.form {W:World}{l:List Int}{v:Value}(h:IntsV W l v):∃ A c,v=.slice A l.length c/\(l.length<=c/\c<=9223372036854775807):=by
 obtain⟨A,c,rfl,hc,_⟩:=h;exact⟨A,c,rfl,hc⟩
set_option maxRecDepth 20000 in
set_option maxHeartbeats 16000000 in
theorem xzvs (M K:Nat->Bool)(S:Mk)(E row:List Int)(ve vr:Value)(pb:Nat)(r f e m:Value)(w:World)(hm:MkAt M K w pb S r f e m)(he:IntsV (hide w (MK M K)) E ve)(hr:IntsV (hide w (MK M K)) row vr)
 (hS:S.Ok)(hE:risesB S.sets.length (-1) E=true)(hrow:risesB S.sets.length (-1) row=true)(hn:S.sets.length<=1048576)(hM:∀ k,M k=true->k<w.heap.size)(hK:∀ k,K k=true->k<w.heap.size):
 Calls Tryz.prog 88 #[.pointer (some ⟨pb,0,none⟩),ve,vr] w fun x w'=>∃ y,x=.returned y/\Nx M M w w'/\MkAt M K w' pb ⟨S.sets,linkF S.follow E row⟩ r f e m:=by
 obtain⟨Ae,ce,rfl,hce⟩:=he.form;obtain⟨Ar,cr,rfl,hcr⟩:=hr.form;have HE:=zd he;have HR:=zd hr;have H0:=zd hm;have HI:=zd (fun(j:Nat) (h:j<E.length)=>xzbb hE _ (List.getElem_mem h));have HO:=zd (fun j=>xzhv (n:=S.sets.length) (E.take j) hS.2 hrow);have HL:=zd (fun j=>(xzcr (E.take j) S.follow row).trans hS.1);have HS:=zd (fun(j:Nat) (h:j<E.length)=>(show linkF S.follow (E.take (j+1)) row=(linkF S.follow (E.take j) row).set E[j].toNat (mergedL ((linkF S.follow (E.take j) row).getD E[j].toNat []) row)by rw [List.take_succ_eq_append_getElem h];exact xzmf row E[j] (E.take j) S.follow));have HRO:=zd (xzal hrow);have HMK:=zd (fun k (h:MK M K k=true)=>(show k<w.heap.size by unfold MK at h;simp only [Bool.or_eq_true]at h;rcases h with h|h;exact hM k h;exact hK k h));clear he hr hm hE hrow hS hM hK
 go_enter Tryz.func88,Tryz.ntmps88
 go_wp2
 go_loopw [10] (fun i wr=>∃ j:Nat,i=.int .i64 j/\j<=E.length/\Hid (MkAt M K wr pb ⟨S.sets,linkF S.follow (E.take j) row⟩ r f e m/\Nx M M w wr)) (fun i _=>E.length - (intOf i).toNat)
 case atStart=>exact⟨0,rfl,Nat.zero_le _,zd ⟨H0.out,Nx.refl _ _⟩⟩
 case round=>
  obtain⟨j,rfl,hj,HH⟩:=hrel
  by_cases hp:j<E.length
  ·have hk1:IntKind.i64.wrap ((j:Int)+1)=((j+1:Nat):Int):=by rw [IntKind.wrap_i64];omega
   have hdl:decide ((j:Int)<(E.length:Int))=true:=by simp;omega
   have hx:=HI.out j hp;have hs:=HS.out j hp;have ho:=HO.out j;have hl:=HL.out j;have hhm:=HH.out.1
   have hne:E≠[]:=by intro e;rw [e]at hp;simp at hp
   obtain⟨be,oe,ce',h1,hre⟩:=HE.out.run hne
   injection h1 with h1 _ h2
   subst h1 h2;have hcell:=(xzax _ _ ((hre.sub (HH.out.2.sub K)).2 j hp));have HNX:=zd HH.out.2;clear hre HH;generalize linkF S.follow (E.take j) row=F at*;generalize E[j]=x at*;obtain⟨xn,rfl⟩:=Int.eq_ofNat_of_zero_le (show 0<=x by omega)
   have hxn:xn<F.length:=by omega
   have hxi:(xn:Int)<(F.length:Int):=by omega
   rw [Int.toNat_natCast]at hs
   have hgd:F.getD xn []=F[xn]:=by simp [hxn]
   rw [hgd]at hs;obtain⟨vs,vf,xs,hmi⟩:=hhm;obtain⟨g,c,rfl,hc,hg1,hg2,hg3,hg4⟩:=hmi.place (by intro e;have e:F=[]:=e;rw [e]at hxn;simp at hxn);obtain⟨A1,n1,c1,hy0,hy1,hy2⟩:=hg4 xn hxn;obtain⟨A1',c1',h1,hcc1⟩:=hy2.form
   injection h1 with h1 h2 h3
   subst h1 h2 h3;simp only at hc hy2 hy0 hcc1;have HMI:=zd hmi;have HC:=zd (fun u (hu:Below wr.heap.size wr u)=>And.intro (six (hmi.blk.step hu)) (show u.cell? ⟨g,xn,none⟩=some (.slice A1 F[xn].length c1)from(hu.cell (p:=⟨g,xn,none⟩) hg3).trans hy0))
   have hfr:∀ u,Below wr.heap.size wr u->u.frozen? ⟨g,xn,none⟩=false:=fun u hu=>(hu.frozen (p:=⟨g,xn,none⟩) hg3).trans hy1
   have HFR:=zd hfr;have hlen1:F[xn].length<=S.sets.length:=xzal (ho _ (List.getElem_mem hxn));have HM:=zd (fun u (hu:Below wr.heap.size wr u)=>xzcn F[xn] row _ _ u (MK M K) (fun k hk=>Nat.lt_of_lt_of_le (HMK.out k hk) (Nat.le_trans HNX.out.size hu.size)) (hy2.sub (xzad _ hu)) ((HR.out.sub (HNX.out.sub K)).sub (xzad _ hu)) (by have:=HRO.out;omega));have HSS:=zd hs;have HG:=zd (And.intro hg1 hg3);clear hmi hy0 hy1 hy2 hg4 hfr ho hs hgd hx hl hlen1 hg1 hg2 hg3
   go_wp2_with fail
   refine xzag 17 32 (fun u=>Hid (Below wr.heap.size wr u)) (fun _ u u'=>Below u.heap.size u u')
    (fun i v u=>match i with
     |0=>v=.pointer (some ⟨pb,0,none⟩)
     |1=>v=.pointer (some ⟨pb,0,none⟩)
     |2=>v=.pointer (some ⟨pb,0,none⟩)
     |3=>v=.pointer (some ⟨pb,3,none⟩)
     |4=>v=.slice (some ⟨g,0,none⟩) F.length c
     |5=>v=.int .i64 (xn:Int)
     |6=>v=.pointer (some ⟨pb,0,none⟩)
     |7=>v=.pointer (some ⟨pb,0,none⟩)
     |8=>v=.pointer (some ⟨pb,0,none⟩)
     |9=>v=.pointer (some ⟨pb,3,none⟩)
     |10=>v=.slice (some ⟨g,0,none⟩) F.length c
     |11=>v=.int .i64 (xn:Int)
     |12=>v=.pointer (some ⟨g,xn,none⟩)
     |13=>v=.slice A1 F[xn].length c1
     |14=>v=.slice Ar row.length cr
     |15=>IntsV (hide u (MK M K)) (mergedL F[xn] row) v
     |16=>v=.pointer (some ⟨g,xn,none⟩)
     |_=>True) (by kernel_rfl) (by kernel_rfl) rfl (zd (Below.refl _ _).drew) ?_ ?_ ?_ ?_
   ·intro i u u' hi hC hr
    exact zd (hC.out.trans (hr.mono hC.out.size))
   ·intro i j v u u' hi hj hne hv hr
    match i,hi,hne,hv with
    |0,_,_,hv=>exact hv
    |1,_,_,hv=>exact hv
    |2,_,_,hv=>exact hv
    |3,_,_,hv=>exact hv
    |4,_,_,hv=>exact hv
    |5,_,_,hv=>exact hv
    |6,_,_,hv=>exact hv
    |7,_,_,hv=>exact hv
    |8,_,_,hv=>exact hv
    |9,_,_,hv=>exact hv
    |10,_,_,hv=>exact hv
    |11,_,_,hv=>exact hv
    |12,_,_,hv=>exact hv
    |13,_,_,hv=>exact hv
    |14,_,_,hv=>exact hv
    |15,_,hne,hv=>
     exact hv.sub (xzad _ hr)
    |16,_,_,hv=>exact hv
    |i+17,hi,_,_=>omega
   ·intro i hi vs u hC hw o ho
    match i,hi,hw,ho with
    |0,_,hw,ho=>
     simp only [zq,zh]at ho;subst ho;refine⟨rfl,?_⟩;obtain⟨⟨k0,k1,k2,k3,k4,k5⟩,y0⟩:=HC.out u hC.out;clear hw;simp only [xzaa,tmpsTo];go_simp;exact xzab (Below.refl _ _) rfl
    |1,_,hw,ho=>
     have e0:vs 0=.pointer (some ⟨pb,0,none⟩):=hw 0 (by omega) (by kernel_rfl);simp only [zq,zh]at ho;subst ho;refine⟨rfl,?_⟩;obtain⟨⟨k0,k1,k2,k3,k4,k5⟩,y0⟩:=HC.out u hC.out;clear hw;simp only [xzaa,tmpsTo,putT,zr];rw [e0];clear e0;go_simp;exact xzab (Below.refl _ _) rfl
    |2,_,hw,ho=>
     have e1:vs 1=.pointer (some ⟨pb,0,none⟩):=hw 1 (by omega) (by kernel_rfl);simp only [zq,zh]at ho;subst ho;refine⟨rfl,?_⟩;obtain⟨⟨k0,k1,k2,k3,k4,k5⟩,y0⟩:=HC.out u hC.out;clear hw;simp only [xzaa,tmpsTo,putT,zr];rw [e1];clear e1;go_simp;exact xzab (Below.refl _ _) rfl
    |3,_,hw,ho=>
     have e2:vs 2=.pointer (some ⟨pb,0,none⟩):=hw 2 (by omega) (by kernel_rfl);simp only [zq,zh]at ho;subst ho;refine⟨rfl,?_⟩;obtain⟨⟨k0,k1,k2,k3,k4,k5⟩,y0⟩:=HC.out u hC.out;clear hw;simp only [xzaa,tmpsTo,putT,zr];rw [e2];clear e2;go_simp;exact xzab (Below.refl _ _) rfl
    |4,_,hw,ho=>
     have e3:vs 3=.pointer (some ⟨pb,3,none⟩):=hw 3 (by omega) (by kernel_rfl);simp only [zq,zh]at ho;subst ho;refine⟨rfl,?_⟩;obtain⟨⟨k0,k1,k2,k3,k4,k5⟩,y0⟩:=HC.out u hC.out;clear hw;simp only [xzaa,tmpsTo,putT,zr];rw [e3];clear e3;go_simp;exact xzab (Below.refl _ _) rfl
    |5,_,hw,ho=>
     simp only [zq,zh]at ho;subst ho;refine⟨rfl,?_⟩;obtain⟨⟨k0,k1,k2,k3,k4,k5⟩,y0⟩:=HC.out u hC.out;clear hw;simp only [xzaa,tmpsTo,putT,zr];go_simp;exact xzab (Below.refl _ _) rfl
    |6,_,hw,ho=>
     simp only [zq,zh]at ho;subst ho;refine⟨rfl,?_⟩;obtain⟨⟨k0,k1,k2,k3,k4,k5⟩,y0⟩:=HC.out u hC.out;clear hw;simp only [xzaa,tmpsTo,putT,zr];go_simp;exact xzab (Below.refl _ _) rfl
    |7,_,hw,ho=>
     have e6:vs 6=.pointer (some ⟨pb,0,none⟩):=hw 6 (by omega) (by kernel_rfl);simp only [zq,zh]at ho;subst ho;refine⟨rfl,?_⟩;obtain⟨⟨k0,k1,k2,k3,k4,k5⟩,y0⟩:=HC.out u hC.out;clear hw;simp only [xzaa,tmpsTo,putT,zr];rw [e6];clear e6;go_simp;exact xzab (Below.refl _ _) rfl
    |8,_,hw,ho=>
     have e7:vs 7=.pointer (some ⟨pb,0,none⟩):=hw 7 (by omega) (by kernel_rfl);simp only [zq,zh]at ho;subst ho;refine⟨rfl,?_⟩;obtain⟨⟨k0,k1,k2,k3,k4,k5⟩,y0⟩:=HC.out u hC.out;clear hw;simp only [xzaa,tmpsTo,putT,zr];rw [e7];clear e7;go_simp;exact xzab (Below.refl _ _) rfl
    |9,_,hw,ho=>
     have e8:vs 8=.pointer (some ⟨pb,0,none⟩):=hw 8 (by omega) (by kernel_rfl);simp only [zq,zh]at ho;subst ho;refine⟨rfl,?_⟩;obtain⟨⟨k0,k1,k2,k3,k4,k5⟩,y0⟩:=HC.out u hC.out;clear hw;simp only [xzaa,tmpsTo,putT,zr];rw [e8];clear e8;go_simp;exact xzab (Below.refl _ _) rfl
    |10,_,hw,ho=>
     have e9:vs 9=.pointer (some ⟨pb,3,none⟩):=hw 9 (by omega) (by kernel_rfl);simp only [zq,zh]at ho;subst ho;refine⟨rfl,?_⟩;obtain⟨⟨k0,k1,k2,k3,k4,k5⟩,y0⟩:=HC.out u hC.out;clear hw;simp only [xzaa,tmpsTo,putT,zr];rw [e9];clear e9;go_simp;exact xzab (Below.refl _ _) rfl
    |11,_,hw,ho=>
     simp only [zq,zh]at ho;subst ho;refine⟨rfl,?_⟩;obtain⟨⟨k0,k1,k2,k3,k4,k5⟩,y0⟩:=HC.out u hC.out;clear hw;simp only [xzaa,tmpsTo,putT,zr];go_simp;exact xzab (Below.refl _ _) rfl
    |12,_,hw,ho=>
     have e10:vs 10=.slice (some ⟨g,0,none⟩) F.length c:=hw 10 (by omega) (by kernel_rfl);have e11:vs 11=.int .i64 (xn:Int):=hw 11 (by omega) (by kernel_rfl);simp only [zq,zh]at ho;subst ho;refine⟨rfl,?_⟩;obtain⟨⟨k0,k1,k2,k3,k4,k5⟩,y0⟩:=HC.out u hC.out;clear hw;simp only [xzaa,tmpsTo,putT,zr];rw [e10,e11];clear e10 e11;go_simp;exact xzab (Below.refl _ _) rfl
    |13,_,hw,ho=>
     have e12:vs 12=.pointer (some ⟨g,xn,none⟩):=hw 12 (by omega) (by kernel_rfl);simp only [zq,zh]at ho;subst ho;refine⟨rfl,?_⟩;obtain⟨⟨k0,k1,k2,k3,k4,k5⟩,y0⟩:=HC.out u hC.out;clear hw;simp only [xzaa,tmpsTo,putT,zr];rw [e12];clear e12;go_simp;exact xzab (Below.refl _ _) rfl
    |14,_,hw,ho=>
     simp only [zq,zh]at ho;subst ho;refine⟨rfl,?_⟩;obtain⟨⟨k0,k1,k2,k3,k4,k5⟩,y0⟩:=HC.out u hC.out;clear hw;simp only [xzaa,tmpsTo,putT,zr];go_simp;exact xzab (Below.refl _ _) rfl
    |15,_,hw,ho=>
     have e13:vs 13=.slice A1 F[xn].length c1:=hw 13 (by omega) (by kernel_rfl);have e14:vs 14=.slice Ar row.length cr:=hw 14 (by omega) (by kernel_rfl);simp only [zq,zh]at ho;subst ho;refine⟨rfl,?_⟩;obtain⟨⟨k0,k1,k2,k3,k4,k5⟩,y0⟩:=HC.out u hC.out;clear hw;simp only [xzaa,tmpsTo,putT,zr];rw [e13,e14];clear e13 e14;go_simp;refine xzbd ((HM.out u hC.out).mono ?_);rintro e u' ⟨v',rfl,h1,h2⟩;exact⟨v',rfl,h2,h1⟩
    |16,_,hw,ho=>
     have e4:vs 4=.slice (some ⟨g,0,none⟩) F.length c:=hw 4 (by omega) (by kernel_rfl);have e5:vs 5=.int .i64 (xn:Int):=hw 5 (by omega) (by kernel_rfl);simp only [zq,zh]at ho;subst ho;refine⟨rfl,?_⟩;obtain⟨⟨k0,k1,k2,k3,k4,k5⟩,y0⟩:=HC.out u hC.out;clear hw;simp only [xzaa,tmpsTo,putT,zr];rw [e4,e5];clear e4 e5;go_simp;exact xzab (Below.refl _ _) rfl
    |i+17,hi,_,_=>omega
   intro vs1 u hC hV;obtain⟨v15,h15⟩:∃ v,vs1 15=v:=⟨_,rfl⟩;have hv:IntsV (hide u (MK M K)) (mergedL F[xn] row) (vs1 15):=hV 15 (by omega);have hv16:vs1 16=.pointer (some ⟨g,xn,none⟩):=hV 16 (by omega);rw [h15]at hv;have HV:=zd hv;obtain⟨A9,c9,rfl,_⟩:=hv.form;have HCO:=zd hC.out;have hfz:=HFR.out u hC.out;have hcl:=(HC.out u hC.out).2;clear hV hv hC;simp only [xzaa,tmpsTo,putT,zr,List.drop_succ_cons,List.drop_zero];rw [h15,hv16];clear h15 hv16;generalize vs1 0=q0;go_wp2;refine⟨⟨j+1,rfl,hp,zd ⟨?_,?_⟩⟩,by simp [intOf];omega⟩
   ·rw [HSS.out]
    exact⟨_,_,_,(HMI.out.step HCO.out).put xn HV.out⟩
   ·exact HNX.out.trans ((Nx.below HCO.out).trans (Nx.put (M:=M) (p:=⟨g,xn,none⟩) HG.out.1 _))
  ·have hdl:decide ((j:Int)<(E.length:Int))=false:=by simp;omega
   obtain rfl:j=E.length:=by omega
   rw [List.take_length]at HH;go_wp2
   go_end0
   exact⟨_,rfl,HH.out.2,HH.out.1⟩
end
section
open Go.RowKit
attribute [local irreducible] FreeW textFrame
def Kor (K:Nat->Bool)(b k:Nat):Bool:=K k||decide (k=b)
theorem Kor_no {K:Nat->Bool}{b k:Nat}:Kor K b k=false↔K k=false/\k≠b:=by unfold Kor;simp
theorem xzgw (K:Nat->Bool)(b:Nat):Kor K b b=true:=by unfold Kor;simp
theorem Kor_or {K:Nat->Bool}{b k:Nat}(h:K k=true):Kor K b k=true:=by unfold Kor;simp [h]
theorem xzey {K:Nat->Bool}{b s:Nat}(hK:∀ k,K k=true->k<s)(hb:b<s):∀ k,Kor K b k=true->k<s:=fun k h=>by
 unfold Kor at h;simp only [Bool.or_eq_true,decide_eq_true_eq]at h
 rcases h with h|rfl
 ·exact hK k h
 ·exact hb
theorem xzea {M K:Nat->Bool}{W:World}{b:Nat}:Sub (hide W (MK M (Kor K b))) (hide W (MK M K)):=xzbe fun _ h1 _=>by
 rw [MK_no,Kor_no]at h1;exact⟨MK_no.2 ⟨h1.1,h1.2.1⟩,rfl⟩
theorem yzas {M M' K:Nat->Bool}{W W':World}{b:Nat}(h:Nx M M' W W')(hb:W.heap.size<=b):Sub (hide W (MK M K)) (hide W' (MK M' (Kor K b))):=xzbe fun k h1 h2=>by
 rw [MK_no]at h1;exact⟨MK_no.2 ⟨(h.mine k h2).trans h1.1,Kor_no.2 ⟨h1.2,by omega⟩⟩,h.block k h2 h1.1⟩
theorem MkAt.sub {M K K':Nat->Bool}{W W':World}{pb:Nat}{S:Mk}{r f e m:Value}(h:MkAt M K W pb S r f e m)(hk:∀ k,k<W.heap.size->M k=true->W'.heap[k]? =W.heap[k]?)(hs:Sub (hide W (MK M K)) (hide W' (MK M K'))):MkAt M K' W' pb S r f e m:=by
 obtain⟨vs,vf,xs,h⟩:=h
 exact⟨vs,vf,xs,(hk pb h.blk.lt h.mine).trans h.blk,h.mine,xzac h.own0 fun k hk'=>hk k (World.ownsRow.lt h.own0 k hk').2 (h.far0 k hk').1,xzac h.own3 fun k hk'=>hk k (World.ownsRow.lt h.own3 k hk').2 (h.far3 k hk').1,h.far0,h.far3,
  fun i hi=>by obtain⟨x,h1,h2⟩:=h.rows i hi;exact⟨x,h1,h2.sub hs⟩⟩
theorem MkAt.new {M K:Nat->Bool}{W W':World}{pb b:Nat}{S:Mk}{r f e m:Value}(h:MkAt M K W pb S r f e m)(hb:Below W.heap.size W W')(hb2:W.heap.size<=b):MkAt M (Kor K b) W' pb S r f e m:=
 h.sub (fun k hk _=>hb.block k hk) (yzas (Nx.below hb) hb2)
theorem MkAt.less {M K:Nat->Bool}{W:World}{pb b:Nat}{S:Mk}{r f e m:Value}(h:MkAt M (Kor K b) W pb S r f e m):MkAt M K W pb S r f e m:=h.sub (fun _ _ _=>rfl) xzea
theorem MkAt.far {M K:Nat->Bool}{W:World}{pb b i:Nat}{S:Mk}{r f e m u:Value}(h:MkAt M K W pb S r f e m)(h1:K b=true)(h2:M b=false):MkAt M K (W.setCell ⟨b,i,none⟩ u) pb S r f e m:=
 h.sub (fun k _ hm=>Below.heap_setCell _ _ _ _ (by intro e;rw [e,h2]at hm;cases hm)) (xzco (by unfold MK;simp [h1]) u)
theorem Nx.far {M M':Nat->Bool}{W W':World}{b i:Nat}{u:Value}(h:Nx M M' W W')(hb:W.heap.size<=b):Nx M M' W (W'.setCell ⟨b,i,none⟩ u):=
 ⟨h.os,h.tape,h.output,by rw [show(W'.setCell ⟨b,i,none⟩ u).heap.size=W'.heap.size by simp [World.setCell]];exact h.size,fun k hk hm=>(Below.heap_setCell _ _ _ _ (by show k≠b;omega)).trans (h.block k hk hm),h.mine⟩
theorem xzas {M K:Nat->Bool}{W:World}{b i:Nat}(h:K b=true)(u:Value):Sub (hide W (MK M K)) (hide (W.setCell ⟨b,i,none⟩ u) (MK M K)):=xzco (by unfold MK;simp [h]) u
structure ThenI (M K:Nat->Bool)(w W:World)(pb:Nat)(S:Mk)(r f e m:Value)(b b':Nat)(p q:Prt)(p1 p2 q1 q2:Value)(A1 A2:List Int)(a1 a2 a3:Value):Prop where
 at0:BlkIs W b 79 #[p1,p2,.bool p.empty]
 at1:BlkIs W (b+1) 79 #[q1,q2,.bool q.empty]
 at2:BlkIs W (b+2) 79 #[.slice none 0 0,.slice none 0 0,.bool false]
 at3:BlkIs W b' 79 #[a1,a2,a3]
 mkr:MkAt M (Kor (Kor K (b+2)) b') W pb S r f e m
 nx:Nx M M w W
 r0:IntsV (hide W (MK M (Kor (Kor K (b+2)) b'))) p.first p1
 r1:IntsV (hide W (MK M (Kor (Kor K (b+2)) b'))) p.ends p2
 r2:IntsV (hide W (MK M (Kor (Kor K (b+2)) b'))) q.first q1
 r3:IntsV (hide W (MK M (Kor (Kor K (b+2)) b'))) q.ends q2
 r4:IntsV (hide W (MK M (Kor (Kor K (b+2)) b'))) A1 a1
 r5:IntsV (hide W (MK M (Kor (Kor K (b+2)) b'))) A2 a2
theorem ThenI.step {M K:Nat->Bool}{w W W':World}{pb:Nat}{S:Mk}{r f e m:Value}{b b':Nat}{p q:Prt}{p1 p2 q1 q2:Value}{A1 A2:List Int}{a1 a2 a3:Value}(h:ThenI M K w W pb S r f e m b b' p q p1 p2 q1 q2 A1 A2 a1 a2 a3)
 (hb:Below W.heap.size W W'):ThenI M K w W' pb S r f e m b b' p q p1 p2 q1 q2 A1 A2 a1 a2 a3:=
 ⟨h.at0.step hb,h.at1.step hb,h.at2.step hb,h.at3.step hb,h.mkr.step hb,h.nx.trans (Nx.below hb),h.r0.sub (xzad _ hb),h.r1.sub (xzad _ hb),h.r2.sub (xzad _ hb),h.r3.sub (xzad _ hb),h.r4.sub (xzad _ hb),h.r5.sub (xzad _ hb)⟩
theorem ThenI.put {M K:Nat->Bool}{w W:World}{pb:Nat}{S:Mk}{r f e m:Value}{b b':Nat}{p q:Prt}{p1 p2 q1 q2:Value}{A1 A2 X:List Int}{a1 a2 a3 x:Value}(h:ThenI M K w W pb S r f e m b b' p q p1 p2 q1 q2 A1 A2 a1 a2 a3)
 (hw:w.heap.size<=b)(hb:b+2<b')(hM:M b'=false)(hx:IntsV (hide W (MK M (Kor (Kor K (b+2)) b'))) X x):
 ThenI M K w (W.setCell ⟨b',0,none⟩ x) pb S r f e m b b' p q p1 p2 q1 q2 X A2 x a2 a3/\ThenI M K w (W.setCell ⟨b',1,none⟩ x) pb S r f e m b b' p q p1 p2 q1 q2 A1 X a1 x a3:=by
 have hk:=xzgw (Kor K (b+2)) b'
 have hs:=fun i=>xzas (M:=M) (W:=W) (i:=i) hk x
 exact⟨⟨h.at0.far (by show b≠b';omega) _,h.at1.far (by show b+1≠b';omega) _,h.at2.far (by show b+2≠b';omega) _,h.at3.put 0 x,h.mkr.far hk hM,h.nx.far (by omega),h.r0.sub (hs 0),h.r1.sub (hs 0),h.r2.sub (hs 0),h.r3.sub (hs 0),hx.sub (hs 0),h.r5.sub (hs 0)⟩,
  ⟨h.at0.far (by show b≠b';omega) _,h.at1.far (by show b+1≠b';omega) _,h.at2.far (by show b+2≠b';omega) _,h.at3.put 1 x,h.mkr.far hk hM,h.nx.far (by omega),h.r0.sub (hs 1),h.r1.sub (hs 1),h.r2.sub (hs 1),h.r3.sub (hs 1),h.r4.sub (hs 1),hx.sub (hs 1)⟩⟩
theorem ThenI.put2 {M K:Nat->Bool}{w W:World}{pb:Nat}{S:Mk}{r f e m:Value}{b b':Nat}{p q:Prt}{p1 p2 q1 q2:Value}{A1 A2:List Int}{a1 a2 a3:Value}(h:ThenI M K w W pb S r f e m b b' p q p1 p2 q1 q2 A1 A2 a1 a2 a3)
 (hw:w.heap.size<=b)(hb:b+2<b')(hM:M b'=false)(x:Value):ThenI M K w (W.setCell ⟨b',2,none⟩ x) pb S r f e m b b' p q p1 p2 q1 q2 A1 A2 a1 a2 x:=by
 have hk:=xzgw (Kor K (b+2)) b';have hs:=xzas (M:=M) (W:=W) (i:=2) hk x;exact⟨h.at0.far (by show b≠b';omega) _,h.at1.far (by show b+1≠b';omega) _,h.at2.far (by show b+2≠b';omega) _,h.at3.put 2 x,h.mkr.far hk hM,h.nx.far (by omega),h.r0.sub hs,h.r1.sub hs,h.r2.sub hs,h.r3.sub hs,h.r4.sub hs,h.r5.sub hs⟩
theorem ThenI.fin {M K:Nat->Bool}{w W:World}{pb:Nat}{S:Mk}{r f e m:Value}{b b':Nat}{p q:Prt}{p1 p2 q1 q2:Value}{A1 A2:List Int}{a1 a2:Value}{z:Bool}(h:ThenI M K w W pb S r f e m b b' p q p1 p2 q1 q2 A1 A2 a1 a2 (.bool z))
 (hw:w.heap.size<=b)(hM:M (b+2)=false):
 (loadVar 79 ⟨b+2,0,none⟩).run Tryz.prog (((W.setCell ⟨b+2,0,none⟩ a1).setCell ⟨b+2,1,none⟩ a2).setCell ⟨b+2,2,none⟩ (.bool z))=.ok (.agg #[a1,a2,.bool z]) (((W.setCell ⟨b+2,0,none⟩ a1).setCell ⟨b+2,1,none⟩ a2).setCell ⟨b+2,2,none⟩ (.bool z))/\
 Nx M M w (((W.setCell ⟨b+2,0,none⟩ a1).setCell ⟨b+2,1,none⟩ a2).setCell ⟨b+2,2,none⟩ (.bool z))/\
 MkAt M K (((W.setCell ⟨b+2,0,none⟩ a1).setCell ⟨b+2,1,none⟩ a2).setCell ⟨b+2,2,none⟩ (.bool z)) pb S r f e m/\
 PrtV (hide (((W.setCell ⟨b+2,0,none⟩ a1).setCell ⟨b+2,1,none⟩ a2).setCell ⟨b+2,2,none⟩ (.bool z)) (MK M K)) ⟨A1,A2,z⟩ (.agg #[a1,a2,.bool z]):=by
 have hk:Kor (Kor K (b+2)) b' (b+2)=true:=Kor_or (xzgw K (b+2));have hs:=((((xzas (M:=M) (W:=W) (i:=0) hk a1).trans (xzas (M:=M) (i:=1) hk a2)).trans (xzas (M:=M) (i:=2) hk (.bool z))).trans xzea).trans xzea;exact⟨xzcs (xzcj h.at2),((h.nx.far (by omega)).far (by omega)).far (by omega),(((h.mkr.far hk hM).far hk hM).far hk hM).less.less,_,_,rfl,h.r4.sub hs,h.r5.sub hs⟩
end
end Go.Proofs.YtgbljnnmhmlifaaGreatDoor
