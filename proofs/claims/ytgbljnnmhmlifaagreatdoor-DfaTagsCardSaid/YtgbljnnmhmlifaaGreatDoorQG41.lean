/-
 AN AUTOMATON TRIMMED, by plain functions: what is found from some states, the live ones, new numbers; it tags as it did, trimmed again it is as it is. No condition.
-/
import Derived.Test.YtgbljnnmhmlifaaGreatDoorQG40
namespace Go.Proofs.YtgbljnnmhmlifaaGreatDoor
open Go.RowKit
def addQ (q:List Int)(x:Int):List Int:=if x= -1\/x∈q then q else q++[x]
def addRowQ (q:List Int)(r:List Int):List Int:=r.foldl addQ q
def qTo (next:List (List Int))(fr:List Int):Nat->List Int
 |0=>fr
 |k+1=>match (qTo next fr k)[k]? with
  |none=>qTo next fr k
  |some x=>addRowQ (qTo next fr k) (next.getD x.toNat [])
def foundL (next:List (List Int))(fr:List Int):List Int:=qTo next fr next.length
def InR (n:Nat)(q:List Int):Prop:=q.Nodup/\∀ x∈q,0<=x/\x<(n:Int)
def WfN (next:List (List Int)):Prop:=∀ r∈next,∀ x∈r, -1<=x/\x<(next.length:Int)
theorem yzho (q:List Int)(x:Int):q<+:addQ q x:=by
 unfold addQ;split
 ·exact List.prefix_refl _
 ·exact List.prefix_append _ _
theorem xzkm:∀ (r q:List Int),q<+:addRowQ q r
 |[],_=>List.prefix_refl _
 |x::r,q=>(yzho q x).trans (xzkm r (addQ q x))
theorem xzyu (next:List (List Int))(fr:List Int)(k:Nat):qTo next fr k<+:qTo next fr (k+1):=by
 show _<+:(match (qTo next fr k)[k]? with|none=>qTo next fr k|some x=>addRowQ (qTo next fr k) (next.getD x.toNat []))
 split
 ·exact List.prefix_refl _
 ·exact xzkm _ _
theorem xzsf (next:List (List Int))(fr:List Int){k m:Nat}(h:k<=m):qTo next fr k<+:qTo next fr m:=by
 induction h with
 |refl=>exact List.prefix_refl _
 |step _ ih=>exact ih.trans (xzyu next fr _)
theorem xzyv {next:List (List Int)}{fr:List Int}{k:Nat}(h:(qTo next fr k).length<=k):∀ m,k<=m->qTo next fr m=qTo next fr k:=by
 intro m hm
 induction hm with
 |refl=>rfl
 |step hm ih=>
  rename_i m
  show(match (qTo next fr m)[m]? with|none=>qTo next fr m|some x=>addRowQ (qTo next fr m) (next.getD x.toNat []))=_
  rw [ih,List.getElem?_eq_none (by have hm':k<=m:=hm;omega)]
theorem addQ_in {n:Nat}{q:List Int}{x:Int}(h:InR n q)(hx: -1<=x/\x<(n:Int)):InR n (addQ q x):=by
 unfold addQ;split
 ·exact h
 ·rename_i hn
  refine⟨List.nodup_append.2 ⟨h.1,by simp,fun a ha b hb e=>?_⟩,fun y hy=>?_⟩
  ·rw [List.mem_singleton]at hb;subst hb;subst e;exact hn (.inr ha)
  ·rcases List.mem_append.1 hy with hy|hy
   ·exact h.2 y hy
   ·rw [List.mem_singleton]at hy;rw [hy]
    have:x≠ -1:=fun e=>hn (.inl e)
    omega
theorem xziz {n:Nat}:∀ (r q:List Int),InR n q->(∀ x∈r, -1<=x/\x<(n:Int))->InR n (addRowQ q r)
 |[],_,h,_=>h
 |x::r,q,h,hr=>xziz r (addQ q x) (addQ_in h (hr x (by simp))) fun y hy=>hr y (by simp [hy])
theorem xzlj {next:List (List Int)}{i:Nat}(h:i<next.length):next.getD i []∈next:=by
 rw [List.getD_eq_getElem?_getD,List.getElem?_eq_getElem h];exact List.getElem_mem h
theorem WfN.row {next:List (List Int)}(h:WfN next)(i:Nat):∀ x∈next.getD i [], -1<=x/\x<(next.length:Int):=by
 intro x hx
 by_cases hi:i<next.length
 ·exact h _ (xzlj hi) x hx
 ·rw [List.getD_eq_getElem?_getD,List.getElem?_eq_none (by omega)]at hx;simp at hx
theorem xzyw {next:List (List Int)}{fr:List Int}(hw:WfN next)(hf:InR next.length fr):∀ k,InR next.length (qTo next fr k)
 |0=>hf
 |k+1=>by
  show InR _ (match (qTo next fr k)[k]? with|none=>qTo next fr k|some x=>addRowQ (qTo next fr k) (next.getD x.toNat []))
  split
  ·exact xzyw hw hf k
  ·exact xziz _ _ (xzyw hw hf k) (hw.row _)
theorem xzck:∀ (n:Nat) (q:List Int),InR n q->q.length<=n
 |0,q,h=>by
  cases q with
  |nil=>simp
  |cons x r=>have:=h.2 x (by simp);omega
 |n+1,q,h=>by
  have h1:InR n (q.filter (· ≠(n:Int))):=⟨h.1.filter _,fun x hx=>by
   have h2:=h.2 x ((List.mem_filter.1 hx).1);have h3:=(List.mem_filter.1 hx).2
   simp at h3;omega⟩
  have h2:=xzck n _ h1
  have h3:q.length<=(q.filter (· ≠(n:Int))).length+1:=by
   have h4:=List.length_eq_countP_add_countP (fun x=>decide (x≠(n:Int))) (l:=q);rw [List.countP_eq_length_filter]at h4
   have h5:List.countP (fun a=>decide ¬(decide (a≠(n:Int))=true)) q<=1:=by
    have e:(fun a=>decide ¬(decide (a≠(n:Int))=true))=(· ==(n:Int)):=by
     funext a;by_cases h:a=(n:Int)<;>simp [h]
    rw [e];exact List.nodup_iff_count.1 h.1 (n:Int)
   omega
  omega
theorem xzyx {next:List (List Int)}{fr:List Int}(hw:WfN next)(hf:InR next.length fr)(k:Nat):(qTo next fr k).length<=next.length:=xzck _ _ (xzyw hw hf k)
theorem yzek {next:List (List Int)}{fr:List Int}(hw:WfN next)(hf:InR next.length fr){k:Nat}(h:(qTo next fr k).length<=k):qTo next fr k=foundL next fr:=by
 unfold foundL
 rcases Nat.le_total k next.length with h1|h1
 ·exact(xzyv h _ h1).symm
 ·exact xzyv (xzyx hw hf _) _ h1
theorem xzlk {next:List (List Int)}{fr:List Int}(hw:WfN next)(hf:InR next.length fr):InR next.length (foundL next fr):=xzyw hw hf _
theorem yzhp {q:List Int}{x y:Int}:y∈addQ q x↔y∈q\/(y=x/\x≠ -1):=by
 unfold addQ;split
 ·rename_i h
  constructor
  ·exact .inl
  ·rintro(h1|⟨rfl,h2⟩)
   ·exact h1
   ·exact h.resolve_left h2
 ·rename_i h
  rw [List.mem_append,List.mem_singleton]
  constructor
  ·rintro(h1|rfl)
   ·exact .inl h1
   ·exact .inr ⟨rfl,fun e=>h (.inl e)⟩
  ·rintro(h1|⟨h1,_⟩)
   ·exact .inl h1
   ·exact .inr h1
theorem xzgn:∀ (r q:List Int) (y:Int),y∈addRowQ q r↔y∈q\/(y∈r/\y≠ -1)
 |[],q,y=>by simp [addRowQ]
 |x::r,q,y=>by
  show y∈addRowQ (addQ q x) r↔_
  rw [xzgn r,yzhp,List.mem_cons]
  constructor
  ·rintro((h|⟨rfl,h⟩)|⟨h,h'⟩)
   ·exact .inl h
   ·exact .inr ⟨.inl rfl,h⟩
   ·exact .inr ⟨.inr h,h'⟩
  ·rintro(h|⟨rfl|h,h'⟩)
   ·exact .inl (.inl h)
   ·exact .inl (.inr ⟨rfl,h'⟩)
   ·exact .inr ⟨h,h'⟩
theorem xzja {next:List (List Int)}{fr:List Int}(hw:WfN next)(hf:InR next.length fr){x y:Int}(hx:x∈foundL next fr)(hy:y∈next.getD x.toNat [])(hne:y≠ -1):y∈foundL next fr:=by
 obtain⟨k,hk,rfl⟩:=List.getElem_of_mem hx;have hl:(foundL next fr).length<=next.length:=xzyx hw hf _
 have hkn:k<next.length:=by omega
 have hkl:k<(qTo next fr k).length:=by
  rcases Nat.lt_or_ge k (qTo next fr k).length with h|h
  ·exact h
  ·have:=yzek hw hf h;rw [this]at h;omega
 have hp:qTo next fr k<+:foundL next fr:=xzsf next fr (by omega)
 have he:(qTo next fr k)[k]? =some (foundL next fr)[k]:=by
  rw [List.getElem?_eq_getElem hkl];rw [hp.getElem hkl]
 have h1:y∈qTo next fr (k+1):=by
  show y∈(match (qTo next fr k)[k]? with|none=>qTo next fr k|some x=>addRowQ (qTo next fr k) (next.getD x.toNat []))
  rw [he];exact(xzgn _ _ _).2 (.inr ⟨hy,hne⟩)
 exact(xzsf next fr (show k+1<=next.length by omega)).subset h1
theorem xzjb {next:List (List Int)}{fr:List Int}{x:Int}(h:x∈fr):x∈foundL next fr:=(xzsf next fr (Nat.zero_le next.length)).subset h
theorem xzsg {next:List (List Int)}{fr:List Int}(P:Int->Prop)(h0:∀ x∈fr,P x)(hs:∀ x,P x->∀ y∈next.getD x.toNat [],y≠ -1->P y):∀ k,∀ x∈qTo next fr k,P x
 |0=>h0
 |k+1=>by
  intro x hx;have hx':x∈(match (qTo next fr k)[k]? with|none=>qTo next fr k|some x=>addRowQ (qTo next fr k) (next.getD x.toNat [])):=hx
  split at hx'
  ·exact xzsg P h0 hs k x hx'
  ·rename_i z hz
   rcases(xzgn _ _ _).1 hx' with h|⟨h,h'⟩
   ·exact xzsg P h0 hs k x h
   ·exact hs z (xzsg P h0 hs k z (List.mem_of_getElem? hz)) x h h'
theorem xzsh {next:List (List Int)}{fr:List Int}(P:Int->Prop)(h0:∀ x∈fr,P x)(hs:∀ x,P x->∀ y∈next.getD x.toNat [],y≠ -1->P y){x:Int}(hx:x∈foundL next fr):P x:=xzsg P h0 hs _ x hx
inductive Lv (D:Df):Int->Prop
 |tag {i:Int}:0<=i->i<(D.next.length:Int)->D.tag.getD i.toNat (-1)≠ -1->Lv D i
 |step {i x:Int}:0<=i->i<(D.next.length:Int)->x∈D.next.getD i.toNat []->Lv D x->Lv D i
theorem Lv.in {D:Df}{i:Int}(h:Lv D i):0<=i/\i<(D.next.length:Int):=by cases h<;>exact⟨by assumption,by assumption⟩
noncomputable def lvB (D:Df)(x:Int):Bool:= @decide (Lv D x) (Classical.propDecidable _)
theorem lvB_iff {D:Df}{x:Int}:lvB D x=true↔Lv D x:=by unfold lvB;simp
def firstL (D:Df):List Int:=if D.next.length=0 then []else [0]
theorem xzjc (D:Df):InR D.next.length (firstL D):=by
 unfold firstL;split
 ·exact⟨by simp,by simp⟩
 ·exact⟨by simp,fun x hx=>by simp at hx;omega⟩
noncomputable def keptL (D:Df):List Int:=(foundL D.next (firstL D)).filter (lvB D)
def numL (L:List Int)(x:Int):Int:=if x∈L then(L.idxOf x:Nat)else -1
noncomputable def trimP (D:Df):Df:=⟨D.of,D.n,(keptL D).map fun i=>(D.next.getD i.toNat []).map (numL (keptL D)),(keptL D).map fun i=>D.tag.getD i.toNat (-1)⟩
theorem xzfx {D:Df}(hw:WfN D.next):InR D.next.length (keptL D):=
 have h:=xzlk hw (xzjc D)
 ⟨h.1.filter _,fun x hx=>h.2 x ((List.mem_filter.1 hx).1)⟩
theorem kept_mem {D:Df}{x:Int}:x∈keptL D↔x∈foundL D.next (firstL D)/\Lv D x:=by
 unfold keptL;rw [List.mem_filter,lvB_iff]
theorem numL_in (L:List Int)(x:Int): -1<=numL L x/\numL L x<(L.length:Int):=by
 unfold numL;split
 ·rename_i h;have:=List.idxOf_lt_length_of_mem h;omega
 ·omega
theorem xzsi {L:List Int}{x:Int}(h:x∈L):0<=numL L x/\L[(numL L x).toNat]? =some x:=by
 unfold numL;rw [if_pos h];refine⟨by omega,?_⟩;rw [Int.toNat_natCast];rw [List.getElem?_eq_getElem (List.idxOf_lt_length_of_mem h),List.getElem_idxOf]
theorem xzyy {α:Type}(L:List Int)(f:Int->α)(d:α){i:Nat}{x:Int}(h:L[i]? =some x):(L.map f).getD i d=f x:=by
 rw [List.getD_eq_getElem?_getD,List.getElem?_map,h];rfl
theorem yzhq {D:Df}{x:Int}(hx:x∈keptL D):(trimP D).next.getD (numL (keptL D) x).toNat []=(D.next.getD x.toNat []).map (numL (keptL D)):=
 xzyy _ _ _ (xzsi hx).2
theorem yzhr {D:Df}{x:Int}(hx:x∈keptL D):(trimP D).tag.getD (numL (keptL D) x).toNat (-1)=D.tag.getD x.toNat (-1):=
 xzyy _ _ _ (xzsi hx).2
theorem xzps (D:Df):(trimP D).next.length=(keptL D).length:=by simp [trimP]
theorem xzjd {q:List Int}{k:Nat}{x:Int}(h:q[k]? =some x)(p:Int->Bool):(q.take (k+1)).filter p=(q.take k).filter p++(if p x then [x]else []):=by
 have hk:=(List.getElem?_eq_some_iff.1 h);obtain⟨hlt,rfl⟩:=hk;rw [List.take_succ_eq_append_getElem hlt,List.filter_append]
 congr 1
 by_cases e:p q[k]=true
 ·simp [e]
 ·simp [e]
theorem xzsj {D:Df}(h0: ¬ Lv D 0):keptL D=[]:=by
 unfold keptL;rw [List.filter_eq_nil_iff];intro x hx hl
 apply h0
 have hx0:=(lvB_iff.1 hl)
 have:∀ y∈foundL D.next (firstL D),Lv D y->Lv D 0:=fun y hy=>by
  refine xzsh (next:=D.next) (fr:=firstL D) (fun z=>(Lv D z->Lv D 0)) ?_ ?_ hy
  ·intro z hz hlz
   unfold firstL at hz
   split at hz
   ·simp at hz
   ·rw [List.mem_singleton]at hz;rwa [hz]at hlz
  ·intro z hz y hy _ hly
   by_cases hzz:z.toNat<D.next.length
   ·by_cases h:0<=z
    ·exact hz (.step h (by omega) hy hly)
    ·have e:z.toNat=(0:Int).toNat:=by simp;omega
     rw [e]at hy;exact .step (by omega) (by omega) hy hly
   ·rw [List.getD_eq_getElem?_getD,List.getElem?_eq_none (by omega)]at hy;simp at hy
 exact this x hx hx0
theorem d_may {D:Df}(h:MayD D):D.may=true:=by
 unfold Df.may Df.sized;simp only [Bool.and_eq_true,decide_eq_true_eq,beq_iff_eq,List.all_eq_true];refine⟨⟨h.few,h.tags⟩,h.cls,fun r hr=>?_,inB_iff.2 h.tag⟩;unfold rowOk;simp only [Bool.and_eq_true,beq_iff_eq];exact⟨(h.rows r hr).1,inB_iff.2 (h.rows r hr).2⟩
theorem MayD.wf {D:Df}(h:MayD D):WfN D.next:=fun r hr x hx=>(h.rows r hr).2 x hx
theorem xzsk {D:Df}(h:MayD D):MayD (trimP D):=by
 have hk:=xzfx h.wf;have hl:(keptL D).length<=D.next.length:=xzck _ _ hk;refine⟨by rw [xzps];have:=h.few;omega,by simp [trimP],h.cls,fun r hr=>?_,fun t ht=>?_⟩
 ·obtain⟨i,hi,rfl⟩:=List.mem_map.1 hr
  have hi2:=hk.2 i hi;refine⟨by rw [List.length_map];exact(h.rows _ (xzlj (by omega))).1,fun x hx=>?_⟩;obtain⟨y,_,rfl⟩:=List.mem_map.1 hx;rw [xzps];exact numL_in _ _
 ·obtain⟨i,hi,rfl⟩:=List.mem_map.1 ht
  have hi2:=hk.2 i hi;rw [List.getD_eq_getElem?_getD]
  have:i.toNat<D.tag.length:=by rw [h.tags];omega
  rw [List.getElem?_eq_getElem this];exact h.tag _ (List.getElem_mem this)
def Df.tagOf (D:Df)(s:ByteArray):Int:=if D.run s= -1 then -1 else D.tag.getD (D.run s).toNat (-1)
theorem xzll {D:Df}(h:MayD D)(h0:0<D.next.length)(s:ByteArray):∀ j,D.goTo s j≠ -1->D.goTo s j∈foundL D.next (firstL D)
 |0,_=>xzjb (by unfold firstL;rw [if_neg (by omega)];simp [Df.goTo])
 |j+1,hj=>by
  have hj1:D.goTo s j≠ -1:=fun e=>hj (by show(if _ then _ else _)=_;rw [if_pos e])
  have e:D.goTo s (j+1)=D.nxt (D.goTo s j) (b8 s j):=by show(if _ then _ else _)=_;rw [if_neg hj1]
  rw [e]at hj ⊢;refine xzja h.wf (xzjc D) (xzll h h0 s j hj1) ?_ hj;unfold Df.nxt at hj ⊢;rw [List.getD_eq_getElem?_getD (l:=D.next.getD (D.goTo s j).toNat [])]at hj ⊢
  by_cases hq:D.of (b8 s j)<(D.next.getD (D.goTo s j).toNat []).length
  ·rw [List.getElem?_eq_getElem hq];exact List.getElem_mem hq
  ·rw [List.getElem?_eq_none (by omega)]at hj;exact absurd rfl hj
theorem nxt_lv {D:Df}{y:Int}{b:Nat}(hy:0<=y)(h:Lv D (D.nxt y b)):Lv D y:=by
 have h1:=h.in;unfold Df.nxt at h h1
 have h2:y.toNat<D.next.length:=by
  rcases Nat.lt_or_ge y.toNat D.next.length with h|h
  ·exact h
  ·rw [List.getD_eq_getElem?_getD (l:=D.next),List.getElem?_eq_none (by omega),Option.getD_none,List.getD_eq_getElem?_getD,List.getElem?_nil,Option.getD_none]at h1;omega
 refine .step hy (by omega) ?_ h;rw [List.getD_eq_getElem?_getD (l:=D.next.getD y.toNat [])]at h1 ⊢
 by_cases hq:D.of b<(D.next.getD y.toNat []).length
 ·rw [List.getElem?_eq_getElem hq];exact List.getElem_mem hq
 ·rw [List.getElem?_eq_none (by omega)]at h1
  simp at h1
theorem xzkn {D:Df}(h:MayD D)(h0:0<D.next.length)(s:ByteArray)(j:Nat)(hj:D.goTo s j≠ -1):0<=D.goTo s j/\D.goTo s j<(D.next.length:Int):=
 (xzlk h.wf (xzjc D)).2 _ (xzll h h0 s j hj)
theorem go_lv0 {D:Df}(h:MayD D)(h0:0<D.next.length)(s:ByteArray):∀ j,Lv D (D.goTo s j)->Lv D 0
 |0,hl=>hl
 |j+1,hl=>by
  have hj1:D.goTo s j≠ -1:=fun e=>by
   have:D.goTo s (j+1)= -1:=by show(if _ then _ else _)=_;rw [if_pos e]
   rw [this]at hl;have:=hl.in;omega
  have e:D.goTo s (j+1)=D.nxt (D.goTo s j) (b8 s j):=by show(if _ then _ else _)=_;rw [if_neg hj1]
  rw [e]at hl;exact go_lv0 h h0 s j (nxt_lv (xzkn h h0 s j hj1).1 hl)
theorem xzje {L:List Int}{x:Int}(h:x∉L):numL L x= -1:=by unfold numL;rw [if_neg h]
theorem xzlm {D:Df}(h:MayD D)(hl:Lv D 0)(s:ByteArray):∀ j,(trimP D).goTo s j=numL (keptL D) (D.goTo s j)
 |0=>by
  have h0:0<D.next.length:=by have:=hl.in;omega
  show(0:Int)=numL (keptL D) 0
  have hF:foundL D.next (firstL D)=0::(foundL D.next (firstL D)).tail:=by
   have hp:firstL D<+:foundL D.next (firstL D):=xzsf D.next (firstL D) (Nat.zero_le _)
   have e:firstL D=[0]:=by unfold firstL;rw [if_neg (by omega)]
   obtain⟨c,hc⟩:=hp;rw [<-hc,e];rfl
  have hk:keptL D=0::((foundL D.next (firstL D)).tail).filter (lvB D):=by
   unfold keptL;rw [hF,List.filter_cons,if_pos (lvB_iff.2 hl)];rfl
  unfold numL;rw [hk,if_pos (by simp),List.idxOf_cons_self];rfl
 |j+1=>by
  have h0:0<D.next.length:=by have:=hl.in;omega
  have ih:=xzlm h hl s j
  show(if(trimP D).goTo s j= -1 then -1 else(trimP D).nxt ((trimP D).goTo s j) (b8 s j))=_
  rw [ih]
  by_cases hm:D.goTo s j∈keptL D
  ·have hn:=xzsi hm
   have hne:D.goTo s j≠ -1:=fun e=>by have:=(xzfx h.wf).2 _ hm;omega
   rw [if_neg (by omega)]
   have e:D.goTo s (j+1)=D.nxt (D.goTo s j) (b8 s j):=by show(if _ then _ else _)=_;rw [if_neg hne]
   rw [e];unfold Df.nxt;rw [yzhq hm];have hr:=xzkn h h0 s j hne;have hlen:=(h.rows _ (xzlj (i:=(D.goTo s j).toNat) (by omega))).1;have hcl:=h.cl (b8 s j) (yzfh s j)
   have hlt:D.of (b8 s j)<(D.next.getD (D.goTo s j).toNat []).length:=by omega
   show(List.map (numL (keptL D)) (D.next.getD (D.goTo s j).toNat [])).getD (D.of (b8 s j)) (-1)=_
   rw [List.getD_eq_getElem?_getD,List.getD_eq_getElem?_getD (l:=D.next.getD (D.goTo s j).toNat []),List.getElem?_map,List.getElem?_eq_getElem hlt]
   rfl
  ·rw [xzje hm,if_pos rfl]
   symm
   apply xzje
   intro hm2;have hl2:=(kept_mem.1 hm2).2
   by_cases hne:D.goTo s j= -1
   ·have:D.goTo s (j+1)= -1:=by show(if _ then _ else _)=_;rw [if_pos hne]
    rw [this]at hl2;have:=hl2.in;omega
   ·have e:D.goTo s (j+1)=D.nxt (D.goTo s j) (b8 s j):=by show(if _ then _ else _)=_;rw [if_neg hne]
    rw [e]at hl2;exact hm (kept_mem.2 ⟨xzll h h0 s j hne,nxt_lv (xzkn h h0 s j hne).1 hl2⟩)
theorem tag_lv {D:Df}{y:Int}(h1:0<=y)(h2:y<(D.next.length:Int))(hn: ¬ Lv D y):D.tag.getD y.toNat (-1)= -1:=by
 apply Classical.byContradiction
 intro e;exact hn (.tag h1 h2 e)
theorem xznu {D:Df}(hm:D.may=true)(s:ByteArray):(trimP D).tagOf s=D.tagOf s:=by
 have h:=may_d hm;have ht:=d_may (xzsk h);unfold Df.tagOf Df.run;rw [hm,ht,Bool.true_and,Bool.true_and]
 by_cases hl:Lv D 0
 ·have h0:0<D.next.length:=by have:=hl.in;omega
  have hne:D.next.isEmpty=false:=by cases e:D.next with|nil=>rw [e]at h0;simp at h0|cons a r=>rfl
  have hk0:(0:Int)∈keptL D:=kept_mem.2 ⟨xzjb (by unfold firstL;rw [if_neg (by omega)];simp),hl⟩
  have hnt:(trimP D).next.isEmpty=false:=by
   have h1:0<(trimP D).next.length:=by rw [xzps];exact List.length_pos_iff.2 (List.ne_nil_of_mem hk0)
   cases e:(trimP D).next with|nil=>rw [e]at h1;simp at h1|cons a r=>rfl
  rw [hne,hnt];simp only [Bool.not_false,if_true];rw [xzlm h hl s]
  by_cases hk:D.goTo s s.size∈keptL D
  ·have hn:=xzsi hk
   have hne:D.goTo s s.size≠ -1:=fun e=>by have:=(xzfx h.wf).2 _ hk;omega
   rw [if_neg (by omega),if_neg hne,yzhr hk]
  ·rw [xzje hk,if_pos rfl]
   by_cases hne:D.goTo s s.size= -1
   ·rw [if_pos hne]
   ·rw [if_neg hne]
    have hr:=xzkn h h0 s _ hne;exact(tag_lv hr.1 hr.2 fun hlv=>hk (kept_mem.2 ⟨xzll h h0 s _ hne,hlv⟩)).symm
 ·have hk:=xzsj hl
  have hnt:(trimP D).next.isEmpty=true:=by unfold trimP;rw [hk];rfl
  rw [hnt];simp only [Bool.not_true,Bool.false_eq_true,if_false,if_true]
  by_cases hne:D.next=[]
  ·rw [hne];simp
  ·have h0:=List.length_pos_iff.2 hne
   have hie:D.next.isEmpty=false:=by cases e:D.next with|nil=>exact absurd e hne|cons a r=>rfl
   rw [hie];simp only [Bool.not_false,if_true]
   by_cases hne:D.goTo s s.size= -1
   ·rw [if_pos hne]
   ·rw [if_neg hne]
    have hr:=xzkn h h0 s _ hne;exact(tag_lv hr.1 hr.2 fun hlv=>hl (go_lv0 h h0 s _ hlv)).symm
end Go.Proofs.YtgbljnnmhmlifaaGreatDoor
