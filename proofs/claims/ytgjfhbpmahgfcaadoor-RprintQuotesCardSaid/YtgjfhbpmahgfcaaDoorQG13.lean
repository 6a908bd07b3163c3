/-
 WHAT ofAlt TELLS: those that have a text, each ReByte with the bytes of all, of alike ones the first. Condition: the trees have at most 2^40 nodes.
-/
import Derived.Test.YtgjfhbpmahgfcaaDoorQG12
import Derived.Test.YtgjfhbpmahgfcaaDoorQG09
import Derived.Test.YtgjfhbpmahgfcaaDoorQG10
import Derived.Test.YtgjfhbpmahgfcaaDoorQG07
import Derived.Test.YtgjfhbpmahgfcaaDoorQG08
namespace Go.Proofs.YtgjfhbpmahgfcaaDoor
section
open Go.RowKit
theorem xzcc:∀ (l r:List Tree),nodesL (l++r)=nodesL l+nodesL r
 |[],r=>by simp [nodesL]
 |t::l,r=>by
  rw [List.cons_append];simp only [nodesL];rw [xzcc l r];omega
def turnT (all:Nat->Bool)(t:Tree):Tree:=if t.kind==1 then .node 1 all [] 0 0 else t
def altStep (all:Nat->Bool)(told:List Tree)(t:Tree):List Tree:=
 if t.isV then told else if told.any (fun x=>x.same (turnT all t))then told else told++[turnT all t]
def altTold (all:Nat->Bool)(l:List Tree):List Tree:=l.foldl (altStep all) []
def altStay (l:List Tree):List Tree:=altTold (unionT l) l
theorem xzhk {all:Nat->Bool}{t:Tree}:(turnT all t).nodes<=t.nodes:=by
 unfold turnT
 split
 ·have:=xzey t
  simp only [Tree.nodes,nodesL];omega
 ·exact Nat.le_refl _
theorem xzbq {all:Nat->Bool}:∀ (l told:List Tree),nodesL (l.foldl (altStep all) told)<=nodesL told+nodesL l
 |[],told=>by simp [nodesL]
 |t::l,told=>by
  rw [List.foldl_cons];have h1:=xzbq (all:=all) l (altStep all told t)
  have h2:nodesL (altStep all told t)<=nodesL told+t.nodes:=by
   have h3:=xzhk (all:=all) (t:=t);unfold altStep
   split
   ·omega
   ·split
    ·omega
    ·rw [xzcc];simp only [nodesL];omega
  simp only [nodesL];omega
attribute [local go_sem] Oper.semAt_some
end
section
open Go.RowKit
end
section
open Go.RowKit
end
section
open Go.RowKit
def RowHide (B:Nat)(v:Value)(k:Nat):Bool:=decide (k<B)||decide (v.ownBlock=some k)
theorem xzdn {B k:Nat}{v:Value}:RowHide B v k=false↔B<=k/\v.ownBlock≠some k:=by unfold RowHide;simp
def RowP (B:Nat)(W:World)(v:Value)(l:List Tree)(xs:List Value):Prop:=W.ownsRow B 34 8 v l.length xs/\∀ (i:Nat) (h:i<l.length),(l[i]).At (hide W (RowHide B v)) (.agg ((xs.drop (i*8)).take 8).toArray)
theorem RowP.nil (W:World)(B:Nat):RowP B W (.slice none 0 0) [] []:=⟨World.ownsRow_nil _ _ _ _,fun i h=>by simp at h⟩
theorem RowP.push {B:Nat}{W w3:World}{v:Value}{l:List Tree}{xs:List Value}{T:Tree}{k:Int}{m:Nat->Bool}{A:Option Addr}{n c:Nat}{lo hi:Int}(h:RowP B W v l xs)(hB:B<=W.heap.size)(hb:Below W.heap.size W w3)
 (hT:T.At (hide w3 (low W.heap.size)) (reV k m A n c lo hi))(hl:l.length+1<=1099511627776):
 ∃ v' W',(Builtin.append_ #[32,32] 32 #[v,.slice (some ⟨w3.heap.size,0,none⟩) 1 1]).run Tryd.prog (w3.alloc (.cells (reL k m A n c lo hi).toArray 34))=.ok v' W'/\
  RowP B W' v' (l++[T]) (xs++reL k m A n c lo hi)/\Below B W W':=by
 obtain⟨i0,hi0,hz0,hz1,hz2⟩:=info_parts xzlm;have hUB:Below w3.heap.size w3 (w3.alloc (.cells (reL k m A n c lo hi).toArray 34)):=(Below.refl _ _).alloc (Nat.le_refl _) _;have hWU:=hb.trans (hUB.mono hb.size)
 have hown:=xzej h.1 (W':=w3.alloc (.cells (reL k m A n c lo hi).toArray 34)) fun q hq=>hWU.block q (h.1.lt q hq).2
 have hnew:=BlkIs.new w3 34 (reL k m A n c lo hi).toArray
 have hsz:(w3.alloc (.cells (reL k m A n c lo hi).toArray 34)).heap.size=w3.heap.size+1:=by simp
 have hs3:=hb.size
 obtain⟨v',W',hr,hown',hgr,_,hblk⟩:=run_append_own_at (P:=Tryd.prog) (w:=w3.alloc (.cells (reL k m A n c lo hi).toArray 34)) B 32 32 34 i0 (.agg zeroL.toArray) 8 80 Tryd.underlying32 hi0 hz0 hz1 hz2 rfl (by decide) v l.length xs hown
  ⟨w3.heap.size,0,none⟩ 1 1 (reL k m A n c lo hi) rfl (fun j u hu=>by
   rw [Addr.add_lit,Nat.zero_add];have:=hnew.range j u (by simpa using hu)
   simpa using this) one_reL (by unfold maxLen;omega) (by omega) (by omega)
 have hlt:∀ q,v.ownBlock=some q->B<=q/\q<W.heap.size:=fun q hq=>h.1.lt q hq
 refine⟨v',W',hr,⟨by simpa using hown',fun i hi=>?_⟩,?_⟩
 ·have hx:xs.length=l.length*8:=h.1.1
  have hv':∀ q,v'.ownBlock=some q->v.ownBlock=some q\/q=w3.heap.size+1:=fun q hq=>by
   rcases hblk with e|e
   ·exact .inl (e▸hq)
   ·rw [e,hsz]at hq
    exact .inr (Option.some.inj hq).symm
  by_cases hil:i<l.length
  ·rw [List.getElem_append_left hil,List.drop_append_of_le_length (by omega),List.take_append_of_le_length (by simp;omega)]
   refine(h.2 i hil).sub (xzhe fun q h1 h2=>?_);rw [xzdn]at h1 ⊢;exact⟨⟨h1.1,fun e=>(hv' q e).elim h1.2 (by omega)⟩,(hgr.block q (by omega) (fun e=>h1.2 e.symm)).trans (hWU.block q h2)⟩
  ·obtain rfl:i=l.length:=by simp at hi;omega
   rw [<-hx];simp only [List.getElem_concat_length,List.drop_left];rw [List.take_of_length_le (by simp [reL])];refine hT.sub (xzhe fun q h1 h2=>?_);rw [low_no]at h1;rw [xzdn];exact⟨⟨by omega,fun e=>(hv' q e).elim (fun e=>by have:=(hlt q e).2;omega) (by omega)⟩,(hgr.block q (by omega) (fun e=>by have:=(hlt q e.symm).2;omega)).trans (hUB.block q h2)⟩
 ·exact(hWU.mono hB).grown hgr (by omega) (fun q hq=>(hlt q hq).1)
section
variable {P : Program} {op : Oper} {ops : Array Oper} {rest : List Oper} {a : Act} {w : World} {Q : Exit → Act → World → Prop}
end
attribute [local go_sem] Oper.semAt_some
theorem xzbp {kind:Int}:∀ l:List Tree,nodesL (flatT kind l)<=nodesL l
 |[]=>by simp [flatT,nodesL]
 |t::l=>by
  have h1:=xzbp (kind:=kind) l
  have h2:flatT kind (t::l)=seg kind t++flatT kind l:=by unfold flatT;rw [List.flatMap_cons]
  rw [h2,xzcc]
  have h3:nodesL (seg kind t)<=t.nodes:=by
   unfold seg
   split
   ·have:=xzja t;omega
   ·simp [nodesL]
  simp only [nodesL];omega
theorem xzbr:∀ l:List Tree,nodesL (catKeep l)<=nodesL l
 |[]=>by simp [catKeep,nodesL]
 |t::l=>by
  have h:=xzbr l;unfold catKeep at h ⊢;rw [List.filter_cons]
  split
  ·simp only [nodesL];omega
  ·simp only [nodesL];omega
theorem xzdo (l:List Tree):nodesL (catStay l)<=nodesL l:=by
 unfold catStay
 cases h:l.find? Tree.isV with
 |none=>exact xzbr l
 |some t=>
  have:=xzbw (List.mem_of_find?_eq_some h)
  simpa [nodesL]using this
theorem xzdp (l:List Tree):nodesL (altStay l)<=nodesL l:=by
 have:=xzbq (all:=unionT l) l []
 simpa [nodesL,altStay,altTold]using this
end
section
open Go.RowKit
attribute [local go_sem] Oper.semAt_some
end
section
open Go.RowKit
def emptyT:Tree:=.node 0 (fun _=>false) [] 0 0
def voidT:Tree:=.node 1 (fun _=>false) [] 0 0
def starB (lo hi:Int):Bool:=(lo==0)&&(hi== -1)
def repPlain (t:Tree)(lo hi:Int):Tree:=
 if(hi==0)||((t.kind==0)||(t.isV&&(lo==0)))then emptyT
 else if t.isV||(((lo==1)&&(hi==1))||((starB lo hi&&(t.kind==4))&&starB t.lo t.hi))then t
 else .node 4 (fun _=>false) [t] lo hi
end
section
open Go.RowKit
def plainNode (k:Int)(m:Nat->Bool)(ps:List Tree)(lo hi:Int):Tree:=
 if k=2 then rowT 2 emptyT (catStay (flatT 2 ps))else if k=3 then rowT 3 voidT (altStay (flatT 3 ps))else if k=4 then repPlain (ps.headD emptyT) lo hi else .node k m [] 0 0
mutual
def Tree.plain:Tree->Tree
 | .node k m l lo hi=>plainNode k m (plainL l) lo hi
def plainL:List Tree->List Tree
 |[]=>[]
 |t::r=>t.plain::plainL r
end
theorem xzdq:∀ l:List Tree,(plainL l).length=l.length
 |[]=>by simp [plainL]
 |t::r=>by simp [plainL,xzdq r]
theorem xzfb {k:Int}{z:Tree}{l:List Tree}(hz:z.nodes<=1):(rowT k z l).nodes<=nodesL l+1:=by
 match l with
 |[]=>simpa [rowT,nodesL]using hz
 |[t]=>simp only [rowT,nodesL];omega
 |a::b::r=>simp only [rowT,Tree.nodes];omega
theorem xzjc {t:Tree}{lo hi:Int}:(repPlain t lo hi).nodes<=t.nodes+1:=by
 unfold repPlain
 split
 ·simp only [emptyT,Tree.nodes,nodesL];omega
 ·split
  ·omega
  ·simp only [Tree.nodes,nodesL];omega
theorem xzch {k:Int}{m:Nat->Bool}{ps:List Tree}{lo hi:Int}(h:k=4->ps≠[]):(plainNode k m ps lo hi).nodes<=nodesL ps+1:=by
 unfold plainNode
 split
 ·have h1:=xzdo (flatT 2 ps)
  have h2:=xzbp (kind:=2) ps;have h3:=xzfb (k:=2) (z:=emptyT) (l:=catStay (flatT 2 ps)) (by simp [emptyT,Tree.nodes,nodesL]);omega
 ·split
  ·have h1:=xzdp (flatT 3 ps)
   have h2:=xzbp (kind:=3) ps;have h3:=xzfb (k:=3) (z:=voidT) (l:=altStay (flatT 3 ps)) (by simp [voidT,Tree.nodes,nodesL]);omega
  ·split
   ·have h1:=xzjc (t:=ps.headD emptyT) (lo:=lo) (hi:=hi)
    cases ps with
    |nil=>exact absurd rfl (h (by assumption))
    |cons t r=>simp only [List.headD_cons]at h1 ⊢;simp only [nodesL];omega
   ·simp only [Tree.nodes,nodesL];omega
/- each ReRep has a Sub -/
mutual
def Tree.reps:Tree->Bool
 | .node k _ l _ _=>(!(k==4)||decide (l≠[]))&&repsL l
def repsL:List Tree->Bool
 |[]=>true
 |t::r=>t.reps&&repsL r
end
mutual
theorem xzft:∀ T:Tree,T.reps=true->T.plain.nodes<=T.nodes
 | .node k m l lo hi=>fun h=>by
  simp only [Tree.reps,Bool.and_eq_true]at h;have h1:=plainL_nodes l h.2
  have h2:=xzch (k:=k) (m:=m) (ps:=plainL l) (lo:=lo) (hi:=hi) (fun hk e=>by
   have:=xzdq l;rw [e]at this;have hl:l=[]:=List.eq_nil_of_length_eq_zero this.symm;subst hk hl
   simp at h)
  simp only [Tree.plain,Tree.nodes];omega
theorem plainL_nodes:∀ l:List Tree,repsL l=true->nodesL (plainL l)<=nodesL l
 |[]=>fun _=>by simp [plainL,nodesL]
 |t::r=>fun h=>by
  simp only [repsL,Bool.and_eq_true]at h;have h1:=xzft t h.1;have h2:=plainL_nodes r h.2;simp only [plainL,nodesL];omega
end
end
section
open Go.RowKit
mutual
def Tree.weight:Tree->Nat
 | .node k _ l _ hi=>weightEnd k hi (weightL l 1)
def weightL:List Tree->Nat->Nat
 |[],n=>n
 |t::r,n=>weightL r (min (n+t.weight) 1000000)
def weightEnd (k hi:Int)(n:Nat):Nat:=
 if k=4 then(if 1<hi/\hi<=64 then min (n*hi.toNat) 1000000 else if hi<0 then min (n*70) 1000000 else n)else n
end
end
section
open Go.RowKit
mutual
theorem xzjd:∀ T:Tree,T.deepN<=1099511627776->T.deepW=(T.deepN:Int)
 | .node k m l lo hi=>fun h=>by
  have h1:=deepM_few l (by simp only [Tree.deepN]at h;omega)
  have h2:Tree.deepW (.node k m l lo hi)=wrap64 (deepM l+1):=by unfold Tree.deepW deepM;rfl
  rw [h2,h1];simp only [Tree.deepN]at h ⊢;unfold wrap64;omega
theorem deepM_few:∀ l:List Tree,deepL l<=1099511627776->deepM l=(deepL l:Int)
 |[]=>fun _=>rfl
 |t::r=>fun h=>by
  simp only [deepL]at h;have h1:=deepM_few r (by omega);have h2:=xzjd t (by omega)
  have h3:∀ (xs:List Int) (a b:Int),0<=a->0<=b->(xs.foldl (fun d x=>if d<x then x else d) (max a b))=max a (xs.foldl (fun d x=>if d<x then x else d) b):=by
   intro xs
   induction xs with
   |nil=>intro a b _ _;rfl
   |cons y ys ih=>
    intro a b ha hb;simp only [List.foldl_cons]
    by_cases hy:b<y
    ·rw [if_pos hy]
     by_cases hy2:max a b<y
     ·rw [if_pos hy2]
      have:=ih a y ha (by omega);rw [show max a y=y by omega]at this;exact this
     ·rw [if_neg hy2]
      have:=ih a y ha (by omega);rw [<-this];congr 1;omega
    ·rw [if_neg hy,if_neg (by omega)]
     exact ih a b ha hb
  unfold deepM at h1 ⊢;simp only [deepsW,List.foldl_cons]
  have h4:(if(0:Int)<t.deepW then t.deepW else 0)=max t.deepW 0:=by rw [h2];split<;>omega
  rw [h4,h3 _ _ _ (by rw [h2];omega) (Int.le_refl _),h1,h2];simp only [deepL];omega
end
mutual
theorem xzje:∀ T:Tree,T.same T=true
 | .node k m l lo hi=>by
  unfold Tree.same
  simp [xzgm,likeL_self l]
theorem likeL_self:∀ l:List Tree,sameL l l=true
 |[]=>by unfold sameL;rfl
 |t::r=>by unfold sameL;rw [xzje t,likeL_self r];rfl
end
end
section
open Go.RowKit
mutual
theorem ok_reps:∀ T:Tree,T.ok=true->T.reps=true
 | .node k m l lo hi=>fun h=>by
  have hk:=xzkf h;simp only [Tree.ok,Bool.and_eq_true]at h;simp only [Tree.reps,Bool.and_eq_true];refine⟨?_,okL_reps l h.1⟩
  by_cases h4:k=4
  ·subst h4
   have h2:=h.2;unfold okNode at h2
   cases l with
   |nil=>simp at h2
   |cons t r=>simp
  ·simp [h4]
theorem okL_reps:∀ l:List Tree,allOk l=true->repsL l=true
 |[]=>fun _=>rfl
 |t::r=>fun h=>by
  simp only [allOk,Bool.and_eq_true]at h;simp only [repsL,Bool.and_eq_true];exact⟨ok_reps t h.1,okL_reps r h.2⟩
end
theorem xzkg {T:Tree}(h:T.mayN=true):T.ok=true/\T.nodes<=300/\T.deepN<=30:=by
 unfold Tree.mayN at h;simp only [Bool.and_eq_true,decide_eq_true_eq]at h;exact⟨h.2.2,h.1,h.2.1⟩
end
end Go.Proofs.YtgjfhbpmahgfcaaDoor
