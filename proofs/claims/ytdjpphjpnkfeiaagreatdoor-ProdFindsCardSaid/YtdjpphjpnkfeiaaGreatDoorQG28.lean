/-
 AN AUTOMATON TRIMMED, by plain functions: what is found from some states, the live ones, new numbers; it tags as it did, trimmed again it is as it is. No condition.
-/
import Derived.Test.YtdjpphjpnkfeiaaGreatDoorQG14
import Derived.Test.YtdjpphjpnkfeiaaGreatDoorQG27
import Derived.Test.YtdjpphjpnkfeiaaGreatDoorQG08
namespace Go.Proofs.YtdjpphjpnkfeiaaGreatDoor
section
open Go.RowKit
def addQ (q:List Int)(x:Int):List Int:=if x= -1\/x∈q then q else q++[x]
def addRowQ (q:List Int)(r:List Int):List Int:=r.foldl addQ q
def qTo (next:List (List Int))(fr:List Int):Nat->List Int
 |0=>fr
 |k+1=>match (qTo next fr k)[k]? with
  |none=>qTo next fr k
  |some x=>addRowQ (qTo next fr k) (next.getD x.toNat [])
def foundL (next:List (List Int))(fr:List Int):List Int:=qTo next fr next.length
def InR (n:Nat)(q:List Int):Prop:=q.Nodup/\∀ x∈q,0<=x/\x<(n:Int)
def WfN (next:List (List Int)):Prop:=∀ r∈next,∀ x∈r, -1<=x/\x<(next.length:Int)
theorem yzfa (q:List Int)(x:Int):q<+:addQ q x:=by
 unfold addQ;split
 ·exact List.prefix_refl _
 ·exact List.prefix_append _ _
theorem xzjp:∀ (r q:List Int),q<+:addRowQ q r
 |[],_=>List.prefix_refl _
 |x::r,q=>(yzfa q x).trans (xzjp r (addQ q x))
theorem xzwh (next:List (List Int))(fr:List Int)(k:Nat):qTo next fr k<+:qTo next fr (k+1):=by
 show _<+:(match (qTo next fr k)[k]? with|none=>qTo next fr k|some x=>addRowQ (qTo next fr k) (next.getD x.toNat []))
 split
 ·exact List.prefix_refl _
 ·exact xzjp _ _
theorem xzqf (next:List (List Int))(fr:List Int){k m:Nat}(h:k<=m):qTo next fr k<+:qTo next fr m:=by
 induction h with
 |refl=>exact List.prefix_refl _
 |step _ ih=>exact ih.trans (xzwh next fr _)
theorem xzwi {next:List (List Int)}{fr:List Int}{k:Nat}(h:(qTo next fr k).length<=k):∀ m,k<=m->qTo next fr m=qTo next fr k:=by
 intro m hm
 induction hm with
 |refl=>rfl
 |step hm ih=>
  rename_i m
  show(match (qTo next fr m)[m]? with|none=>qTo next fr m|some x=>addRowQ (qTo next fr m) (next.getD x.toNat []))=_
  rw [ih,List.getElem?_eq_none (by have hm':k<=m:=hm;omega)]
theorem addQ_in {n:Nat}{q:List Int}{x:Int}(h:InR n q)(hx: -1<=x/\x<(n:Int)):InR n (addQ q x):=by
 unfold addQ;split
 ·exact h
 ·rename_i hn
  refine⟨List.nodup_append.2 ⟨h.1,by simp,fun a ha b hb e=>?_⟩,fun y hy=>?_⟩
  ·rw [List.mem_singleton]at hb;subst hb;subst e;exact hn (.inr ha)
  ·rcases List.mem_append.1 hy with hy|hy
   ·exact h.2 y hy
   ·rw [List.mem_singleton]at hy;rw [hy]
    have:x≠ -1:=fun e=>hn (.inl e)
    omega
theorem xzif {n:Nat}:∀ (r q:List Int),InR n q->(∀ x∈r, -1<=x/\x<(n:Int))->InR n (addRowQ q r)
 |[],_,h,_=>h
 |x::r,q,h,hr=>xzif r (addQ q x) (addQ_in h (hr x (by simp))) fun y hy=>hr y (by simp [hy])
theorem xzwj {next:List (List Int)}{i:Nat}(h:i<next.length):next.getD i []∈next:=by
 rw [List.getD_eq_getElem?_getD,List.getElem?_eq_getElem h];exact List.getElem_mem h
theorem WfN.row {next:List (List Int)}(h:WfN next)(i:Nat):∀ x∈next.getD i [], -1<=x/\x<(next.length:Int):=by
 intro x hx
 by_cases hi:i<next.length
 ·exact h _ (xzwj hi) x hx
 ·rw [List.getD_eq_getElem?_getD,List.getElem?_eq_none (by omega)]at hx;simp at hx
theorem xzwk {next:List (List Int)}{fr:List Int}(hw:WfN next)(hf:InR next.length fr):∀ k,InR next.length (qTo next fr k)
 |0=>hf
 |k+1=>by
  show InR _ (match (qTo next fr k)[k]? with|none=>qTo next fr k|some x=>addRowQ (qTo next fr k) (next.getD x.toNat []))
  split
  ·exact xzwk hw hf k
  ·exact xzif _ _ (xzwk hw hf k) (hw.row _)
theorem xzcb:∀ (n:Nat) (q:List Int),InR n q->q.length<=n
 |0,q,h=>by
  cases q with
  |nil=>simp
  |cons x r=>have:=h.2 x (by simp);omega
 |n+1,q,h=>by
  have h1:InR n (q.filter (· ≠(n:Int))):=⟨h.1.filter _,fun x hx=>by
   have h2:=h.2 x ((List.mem_filter.1 hx).1);have h3:=(List.mem_filter.1 hx).2
   simp at h3;omega⟩
  have h2:=xzcb n _ h1
  have h3:q.length<=(q.filter (· ≠(n:Int))).length+1:=by
   have h4:=List.length_eq_countP_add_countP (fun x=>decide (x≠(n:Int))) (l:=q);rw [List.countP_eq_length_filter]at h4
   have h5:List.countP (fun a=>decide ¬(decide (a≠(n:Int))=true)) q<=1:=by
    have e:(fun a=>decide ¬(decide (a≠(n:Int))=true))=(· ==(n:Int)):=by
     funext a;by_cases h:a=(n:Int)<;>simp [h]
    rw [e];exact List.nodup_iff_count.1 h.1 (n:Int)
   omega
  omega
theorem xzwl {next:List (List Int)}{fr:List Int}(hw:WfN next)(hf:InR next.length fr)(k:Nat):(qTo next fr k).length<=next.length:=xzcb _ _ (xzwk hw hf k)
theorem yzco {next:List (List Int)}{fr:List Int}(hw:WfN next)(hf:InR next.length fr){k:Nat}(h:(qTo next fr k).length<=k):qTo next fr k=foundL next fr:=by
 unfold foundL
 rcases Nat.le_total k next.length with h1|h1
 ·exact(xzwi h _ h1).symm
 ·exact xzwi (xzwl hw hf _) _ h1
theorem xzfq {next:List (List Int)}{fr:List Int}(hw:WfN next)(hf:InR next.length fr):InR next.length (foundL next fr):=xzwk hw hf _
theorem yzfb {q:List Int}{x y:Int}:y∈addQ q x↔y∈q\/(y=x/\x≠ -1):=by
 unfold addQ;split
 ·rename_i h
  constructor
  ·exact .inl
  ·rintro(h1|⟨rfl,h2⟩)
   ·exact h1
   ·exact h.resolve_left h2
 ·rename_i h
  rw [List.mem_append,List.mem_singleton]
  constructor
  ·rintro(h1|rfl)
   ·exact .inl h1
   ·exact .inr ⟨rfl,fun e=>h (.inl e)⟩
  ·rintro(h1|⟨h1,_⟩)
   ·exact .inl h1
   ·exact .inr h1
theorem xzfr:∀ (r q:List Int) (y:Int),y∈addRowQ q r↔y∈q\/(y∈r/\y≠ -1)
 |[],q,y=>by simp [addRowQ]
 |x::r,q,y=>by
  show y∈addRowQ (addQ q x) r↔_
  rw [xzfr r,yzfb,List.mem_cons]
  constructor
  ·rintro((h|⟨rfl,h⟩)|⟨h,h'⟩)
   ·exact .inl h
   ·exact .inr ⟨.inl rfl,h⟩
   ·exact .inr ⟨.inr h,h'⟩
  ·rintro(h|⟨rfl|h,h'⟩)
   ·exact .inl (.inl h)
   ·exact .inl (.inr ⟨rfl,h'⟩)
   ·exact .inr ⟨h,h'⟩
theorem xzem {next:List (List Int)}{fr:List Int}(hw:WfN next)(hf:InR next.length fr){x y:Int}(hx:x∈foundL next fr)(hy:y∈next.getD x.toNat [])(hne:y≠ -1):y∈foundL next fr:=by
 obtain⟨k,hk,rfl⟩:=List.getElem_of_mem hx;have hl:(foundL next fr).length<=next.length:=xzwl hw hf _
 have hkn:k<next.length:=by omega
 have hkl:k<(qTo next fr k).length:=by
  rcases Nat.lt_or_ge k (qTo next fr k).length with h|h
  ·exact h
  ·have:=yzco hw hf h;rw [this]at h;omega
 have hp:qTo next fr k<+:foundL next fr:=xzqf next fr (by omega)
 have he:(qTo next fr k)[k]? =some (foundL next fr)[k]:=by
  rw [List.getElem?_eq_getElem hkl];rw [hp.getElem hkl]
 have h1:y∈qTo next fr (k+1):=by
  show y∈(match (qTo next fr k)[k]? with|none=>qTo next fr k|some x=>addRowQ (qTo next fr k) (next.getD x.toNat []))
  rw [he];exact(xzfr _ _ _).2 (.inr ⟨hy,hne⟩)
 exact(xzqf next fr (show k+1<=next.length by omega)).subset h1
theorem xzig {next:List (List Int)}{fr:List Int}{x:Int}(h:x∈fr):x∈foundL next fr:=(xzqf next fr (Nat.zero_le next.length)).subset h
theorem xzqg {next:List (List Int)}{fr:List Int}(P:Int->Prop)(h0:∀ x∈fr,P x)(hs:∀ x,P x->∀ y∈next.getD x.toNat [],y≠ -1->P y):∀ k,∀ x∈qTo next fr k,P x
 |0=>h0
 |k+1=>by
  intro x hx;have hx':x∈(match (qTo next fr k)[k]? with|none=>qTo next fr k|some x=>addRowQ (qTo next fr k) (next.getD x.toNat [])):=hx
  split at hx'
  ·exact xzqg P h0 hs k x hx'
  ·rename_i z hz
   rcases(xzfr _ _ _).1 hx' with h|⟨h,h'⟩
   ·exact xzqg P h0 hs k x h
   ·exact hs z (xzqg P h0 hs k z (List.mem_of_getElem? hz)) x h h'
theorem xzqh {next:List (List Int)}{fr:List Int}(P:Int->Prop)(h0:∀ x∈fr,P x)(hs:∀ x,P x->∀ y∈next.getD x.toNat [],y≠ -1->P y){x:Int}(hx:x∈foundL next fr):P x:=xzqg P h0 hs _ x hx
inductive Lv (D:Df):Int->Prop
 |tag {i:Int}:0<=i->i<(D.next.length:Int)->D.tag.getD i.toNat (-1)≠ -1->Lv D i
 |step {i x:Int}:0<=i->i<(D.next.length:Int)->x∈D.next.getD i.toNat []->Lv D x->Lv D i
theorem Lv.in {D:Df}{i:Int}(h:Lv D i):0<=i/\i<(D.next.length:Int):=by cases h<;>exact⟨by assumption,by assumption⟩
noncomputable def lvB (D:Df)(x:Int):Bool:= @decide (Lv D x) (Classical.propDecidable _)
theorem lvB_iff {D:Df}{x:Int}:lvB D x=true↔Lv D x:=by unfold lvB;simp
theorem xzih (D:Df):lvB D (-1)=false:=by
 rw [Bool.eq_false_iff];intro h;have:=(lvB_iff.1 h).in;omega
def firstL (D:Df):List Int:=if D.next.length=0 then []else [0]
theorem xzdx (D:Df):InR D.next.length (firstL D):=by
 unfold firstL;split
 ·exact⟨by simp,by simp⟩
 ·exact⟨by simp,fun x hx=>by simp at hx;omega⟩
noncomputable def keptL (D:Df):List Int:=(foundL D.next (firstL D)).filter (lvB D)
def numL (L:List Int)(x:Int):Int:=if x∈L then(L.idxOf x:Nat)else -1
noncomputable def trimP (D:Df):Df:=⟨D.of,D.n,(keptL D).map fun i=>(D.next.getD i.toNat []).map (numL (keptL D)),(keptL D).map fun i=>D.tag.getD i.toNat (-1)⟩
theorem xzdc {D:Df}(hw:WfN D.next):InR D.next.length (keptL D):=
 have h:=xzfq hw (xzdx D)
 ⟨h.1.filter _,fun x hx=>h.2 x ((List.mem_filter.1 hx).1)⟩
theorem kept_mem {D:Df}{x:Int}:x∈keptL D↔x∈foundL D.next (firstL D)/\Lv D x:=by
 unfold keptL;rw [List.mem_filter,lvB_iff]
theorem yzba {D:Df}(hw:WfN D.next){x y:Int}(hx:x∈keptL D)(hy:y∈D.next.getD x.toNat [])(hl:Lv D y):y∈keptL D:=
 kept_mem.2 ⟨xzem hw (xzdx D) (kept_mem.1 hx).1 hy (by have:=hl.in;omega),hl⟩
theorem numL_in (L:List Int)(x:Int): -1<=numL L x/\numL L x<(L.length:Int):=by
 unfold numL;split
 ·rename_i h;have:=List.idxOf_lt_length_of_mem h;omega
 ·omega
theorem xzge {L:List Int}{x:Int}(h:x∈L):0<=numL L x/\L[(numL L x).toNat]? =some x:=by
 unfold numL;rw [if_pos h];refine⟨by omega,?_⟩;rw [Int.toNat_natCast];rw [List.getElem?_eq_getElem (List.idxOf_lt_length_of_mem h),List.getElem_idxOf]
theorem xzwm {α:Type}(L:List Int)(f:Int->α)(d:α){i:Nat}{x:Int}(h:L[i]? =some x):(L.map f).getD i d=f x:=by
 rw [List.getD_eq_getElem?_getD,List.getElem?_map,h];rfl
theorem yzfc {D:Df}{x:Int}(hx:x∈keptL D):(trimP D).next.getD (numL (keptL D) x).toNat []=(D.next.getD x.toNat []).map (numL (keptL D)):=
 xzwm _ _ _ (xzge hx).2
theorem yzfd {D:Df}{x:Int}(hx:x∈keptL D):(trimP D).tag.getD (numL (keptL D) x).toNat (-1)=D.tag.getD x.toNat (-1):=
 xzwm _ _ _ (xzge hx).2
theorem xzii (D:Df):(trimP D).next.length=(keptL D).length:=by simp [trimP]
theorem xzij {q:List Int}{k:Nat}{x:Int}(h:q[k]? =some x)(p:Int->Bool):(q.take (k+1)).filter p=(q.take k).filter p++(if p x then [x]else []):=by
 have hk:=(List.getElem?_eq_some_iff.1 h);obtain⟨hlt,rfl⟩:=hk;rw [List.take_succ_eq_append_getElem hlt,List.filter_append]
 congr 1
 by_cases e:p q[k]=true
 ·simp [e]
 ·simp [e]
theorem xzqi {D:Df}(h0: ¬ Lv D 0):keptL D=[]:=by
 unfold keptL;rw [List.filter_eq_nil_iff];intro x hx hl
 apply h0
 have hx0:=(lvB_iff.1 hl)
 have:∀ y∈foundL D.next (firstL D),Lv D y->Lv D 0:=fun y hy=>by
  refine xzqh (next:=D.next) (fr:=firstL D) (fun z=>(Lv D z->Lv D 0)) ?_ ?_ hy
  ·intro z hz hlz
   unfold firstL at hz
   split at hz
   ·simp at hz
   ·rw [List.mem_singleton]at hz;rwa [hz]at hlz
  ·intro z hz y hy _ hly
   by_cases hzz:z.toNat<D.next.length
   ·by_cases h:0<=z
    ·exact hz (.step h (by omega) hy hly)
    ·have e:z.toNat=(0:Int).toNat:=by simp;omega
     rw [e]at hy;exact .step (by omega) (by omega) hy hly
   ·rw [List.getD_eq_getElem?_getD,List.getElem?_eq_none (by omega)]at hy;simp at hy
 exact this x hx hx0
theorem MayD.wf {D:Df}(h:MayD D):WfN D.next:=fun r hr x hx=>(h.rows r hr).2 x hx
theorem xzqj {D:Df}(h:MayD D):MayD (trimP D):=by
 have hk:=xzdc h.wf;have hl:(keptL D).length<=D.next.length:=xzcb _ _ hk;refine⟨by rw [xzii];have:=h.few;omega,by simp [trimP],h.cls,fun r hr=>?_,fun t ht=>?_⟩
 ·obtain⟨i,hi,rfl⟩:=List.mem_map.1 hr
  have hi2:=hk.2 i hi;refine⟨by rw [List.length_map];exact(h.rows _ (xzwj (by omega))).1,fun x hx=>?_⟩;obtain⟨y,_,rfl⟩:=List.mem_map.1 hx;rw [xzii];exact numL_in _ _
 ·obtain⟨i,hi,rfl⟩:=List.mem_map.1 ht
  have hi2:=hk.2 i hi;rw [List.getD_eq_getElem?_getD]
  have:i.toNat<D.tag.length:=by rw [h.tags];omega
  rw [List.getElem?_eq_getElem this];exact h.tag _ (List.getElem_mem this)
theorem xzks {L:List Int}{x:Int}(h:x∉L):numL L x= -1:=by unfold numL;rw [if_neg h]
theorem tag_lv {D:Df}{y:Int}(h1:0<=y)(h2:y<(D.next.length:Int))(hn: ¬ Lv D y):D.tag.getD y.toNat (-1)= -1:=by
 apply Classical.byContradiction
 intro e;exact hn (.tag h1 h2 e)
end
section
open Go.RowKit
attribute [local irreducible] FreeW
theorem ne_m1 (x:Nat):((x:Int) != -1)=true:=by rw [bne_iff_ne];omega
def renI (nums:List Int)(x:Int):Int:=if x= -1 then -1 else nums.getD x.toNat 0
def renF (r nums:List Int)(k:Nat):Nat->Value:=fun i=>if i<k then .int .i64 (renI nums (r.getD i 0))else .int .i64 0
theorem xzwn (r nums:List Int)(k:Nat)(v:Value)(hv:v=.int .i64 (renI nums (r.getD k 0))):putV (renF r nums k) k v=renF r nums (k+1):=by
 subst hv
 funext i;unfold putV renF
 by_cases h:i=k
 ·subst h;rw [if_pos rfl,if_pos (by omega)]
 ·rw [if_neg h]
  by_cases h2:i<k
  ·rw [if_pos h2,if_pos (by omega)]
  ·rw [if_neg h2,if_neg (by omega)]
theorem xzwo (F:Nat->Value)(k:Nat)(u v:Value):putV (putV F k u) k v=putV F k v:=by
 funext i;unfold putV;split<;>rfl
theorem yzbb (r nums:List Int):(fun _=>Value.int .i64 0)=renF r nums 0:=by
 funext i;unfold renF;rw [if_neg (by omega)]
theorem yzfe {W:World}{g:Nat}{t:TypeId}{r nums:List Int}(h:BlkF W g t r.length (renF r nums r.length)):BlkF W g t r.length (intF (r.map (renI nums))):=by
 have e:cellsN r.length (renF r nums r.length)=cellsN r.length (intF (r.map (renI nums))):=xzap fun i hi=>by
  unfold renF intF;rw [if_pos hi,List.getD_eq_getElem?_getD,List.getD_eq_getElem?_getD,List.getElem?_map,List.getElem?_eq_getElem hi];rfl
 unfold BlkF at h ⊢;rw [<-e];exact h
set_option maxRecDepth 20000 in
set_option maxHeartbeats 8000000 in
theorem xzkt (r nums:List Int)(v vn:Value)(w:World)(hv:IntsV w r v)(hn:IntsV w nums vn)(hr:∀ x∈r, -1<=x/\x<(nums.length:Int))(hl:r.length<=1048576):
 Calls Tryz.prog 73 #[v,vn] w fun e w'=>e=.returned (.slice (some ⟨w.heap.size,0,none⟩) r.length r.length)/\BlkF w' w.heap.size 3 r.length (intF (r.map (renI nums)))/\Below w.heap.size w w':=by
 obtain⟨A,c,rfl,hc,hs⟩:=hv;obtain⟨An,cn,rfl,hcn,hsn⟩:=hn;obtain⟨W1,hW1⟩:∃ W1,(w.alloc (.cells (cellsN r.length fun _=>.int .i64 0) 3))=W1:=⟨_,rfl⟩
 have hb1:Below w.heap.size w W1:=by rw [<-hW1];exact(Below.refl _ _).alloc (Nat.le_refl _) _
 have hx1:BlkF W1 w.heap.size 3 r.length (renF r nums 0):=by rw [<-hW1,<-yzbb];exact BlkIs.new w _ _
 have hmk:=xzhk r.length (by omega) w;rw [hW1]at hmk;have HS:=zd hs;have HSN:=zd hsn;have HB:=zd (And.intro hb1 hx1);have HR:=zd hr;clear hs hsn hb1 hx1 hr hW1
 go_enter Tryz.func73,Tryz.ntmps73
 go_wp2
 go_loopw [6,7,13] (fun _ _ i wr=>∃ k:Nat,i=.int .i64 k/\k<=r.length/\Hid (Below w.heap.size w wr/\BlkF wr w.heap.size 3 r.length (renF r nums k))) (fun _ _ i _=>r.length - (intOf i).toNat)
 case atStart=>exact⟨0,rfl,Nat.zero_le _,HB⟩
 case round=>
  obtain⟨k,rfl,hk,HH⟩:=hrel;obtain⟨wz,rfl⟩:∃ wz,wz=wr:=⟨_,rfl⟩
  by_cases hp:k<r.length
  ·have hk1:IntKind.i64.wrap ((k:Int)+1)=((k+1:Nat):Int):=by rw [IntKind.wrap_i64];omega
   have hdl:decide ((k:Int)<(r.length:Int))=true:=by simp;omega
   obtain⟨b,o,rfl,hlt,hg⟩:=HS.out (by intro e;subst e;simp at hp);have hcell:=(HH.out.1.cell (p:=⟨b,o+k,none⟩) hlt).trans (hg k hp);have hc2:=BlkF.cell HH.out.2 hp;have hfz:=BlkIs.frozen HH.out.2 k;have hrk:=HR.out _ (List.getElem_mem hp)
   have hgd:r.getD k 0=r[k]:=by rw [List.getD_eq_getElem?_getD,List.getElem?_eq_getElem hp];rfl
   obtain⟨W2,hW2⟩:∃ W2,wz.setCell ⟨w.heap.size,k,none⟩ (.int .i64 (-1))=W2:=⟨_,rfl⟩
   have hb2:Below w.heap.size w W2:=by rw [<-hW2];exact HH.out.1.setCell (p:=⟨w.heap.size,k,none⟩) (Nat.le_refl _) _
   have hx2:BlkF W2 w.heap.size 3 r.length (putV (renF r nums k) k (.int .i64 (-1))):=by rw [<-hW2];exact HH.out.2.put _ _
   clear hg
   by_cases h1:r[k]= -1
   ·have HN:=zd (show Below w.heap.size w W2/\BlkF W2 w.heap.size 3 r.length (renF r nums (k+1))from⟨hb2,by rw [<-xzwn r nums k (.int .i64 (-1)) (by rw [hgd,h1];rfl)];exact hx2⟩)
    rw [h1]at hcell;clear h1 hrk hgd hb2 hx2;go_wp2;exact⟨⟨k+1,rfl,hp,HN⟩,by simp [intOf]<;>omega⟩
   ·obtain⟨x,hx⟩:∃ x:Nat,r[k]=(x:Nat):=⟨r[k].toNat,by omega⟩
    have hxn:x<nums.length:=by omega
    obtain⟨bn,on,rfl,hltn,hgn⟩:=HSN.out (by intro e;subst e;simp at hxn);have hcelln:=(hb2.cell (p:=⟨bn,on+x,none⟩) hltn).trans (hgn x hxn);have e1:=ne_m1 x
    have i1:decide ((x:Int)<(nums.length:Int))=true:=by simp;omega
    have hc3:=BlkF.cell hx2 hp;have hfz3:=BlkIs.frozen hx2 k
    have HN:=zd (show Below w.heap.size w (W2.setCell ⟨w.heap.size,k,none⟩ (.int .i64 nums[x]))/\BlkF (W2.setCell ⟨w.heap.size,k,none⟩ (.int .i64 nums[x])) w.heap.size 3 r.length (renF r nums (k+1))from
     ⟨hb2.setCell (p:=⟨w.heap.size,k,none⟩) (Nat.le_refl _) _,by
      have:=hx2.put k (.int .i64 nums[x]);rw [xzwo,xzwn r nums k _ (by rw [hgd,hx];unfold renI;rw [if_neg (by omega),Int.toNat_natCast,List.getD_eq_getElem?_getD,List.getElem?_eq_getElem hxn];rfl)]at this
      exact this⟩)
    rw [hx]at hcell;clear h1 hrk hgd hb2 hx2 hx hgn;generalize nums[x]=nx at*;go_wp2;exact⟨⟨k+1,rfl,hp,HN⟩,by simp [intOf]<;>omega⟩
  ·have hdl:decide ((k:Int)<(r.length:Int))=false:=by simp;omega
   obtain rfl:k=r.length:=by omega
   have HF:=zd (yzfe HH.out.2);go_wp2;go_ret;exact⟨rfl,HF.out,HH.out.1⟩
set_option maxRecDepth 20000 in
set_option maxHeartbeats 8000000 in
theorem xzwp (D:Df)(v:Value)(w:World)(h:DfAt w D v):
 Calls Tryz.prog 72 #[v] w fun e w'=>∃ v',e=.returned v'/\RowI w.heap.size w' v' (firstL D)/\(firstL D=[]->v'=.slice none 0 0)/\Below w.heap.size w w':=by
 obtain⟨vn,vt,rfl,hrn,hrt⟩:=h;obtain⟨W1,hbx,hsz,hb1,hx1⟩:=xzat D.of D.n vn vt w;have hd1:=DfB.of hx1;obtain⟨c256,c257,c258⟩:=hd1.cells;obtain⟨An,cn,rfl,hcn,_⟩:=hrn;have HB:=zd hb1;obtain⟨dc,hdc⟩:∃ dc,dfC D.of D.n (.slice An D.next.length cn) vt=dc:=⟨_,rfl⟩;rw [hdc]at hbx
 have hds:dc.size=259:=by rw [<-hdc];exact xzac _ _ _ _
 rw [hdc];clear hrt hb1 hx1 hd1 hdc
 by_cases hz:D.next.length=0
 ·have e1:((D.next.length:Int)==0)=true:=by simp [hz]
  have e1b:decide ((D.next.length:Int)=0)=true:=by simp [hz]
  have HN:=zd (show firstL D=[]by unfold firstL;rw [if_pos hz]);clear hz
  go_enter Tryz.func72,Tryz.ntmps72
  go_wp2;go_ret;exact⟨_,rfl,by rw [HN.out];exact World.ownsRow_nil _ _ _ _,fun _=>rfl,HB.out⟩
 ·have e1:((D.next.length:Int)==0)=false:=by simp;intro e;rw [e]at hz;exact hz rfl
  have e1b:decide ((D.next.length:Int)=0)=false:=by simp;intro e;rw [e]at hz;exact hz rfl
  have HN:=zd (show firstL D=[0]by unfold firstL;rw [if_neg hz]);obtain⟨W2,hW2⟩:∃ W2,W1.alloc (.cells #[.int .i64 0] 3)=W2:=⟨_,rfl⟩
  have HB2:=zd (show Below w.heap.size w W2/\RowI w.heap.size W2 (.slice (some ⟨W1.heap.size,0,none⟩) 1 1) [0]by
   rw [<-hW2]
   exact⟨HB.out.alloc HB.out.size _,yzez (BlkIs.new W1 _ _) HB.out.size⟩)
  rw [hsz]at HB2;clear hz
  go_enter Tryz.func72,Tryz.ntmps72
  go_wp2;go_ret;exact⟨_,rfl,by rw [HN.out];exact HB2.out.2,fun e=>absurd (HN.out.symm.trans e) (by simp),HB2.out.1⟩
end
end Go.Proofs.YtdjpphjpnkfeiaaGreatDoor
