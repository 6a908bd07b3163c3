/-
 THE SETS OF A TREE WRITTEN OUT are its part's (pure). Condition: each node of the tree may be.
-/
import Derived.Test.YthoaaginadjaoaaQG40
import Derived.Test.YthoaaginadjaoaaQG31
import Derived.Test.YthoaaginadjaoaaQG05
import Derived.Test.YthoaaginadjaoaaQG38
namespace Go.Proofs.Ythoaaginadjaoaa
section
open Go.RowKit
mutual
def setsT:Tree->List (Nat->Bool)
 | .node k m l lo hi=>if k=1 then [m]else if k=4 then(List.replicate (copiesI lo hi).toNat (headSets l)).flatten else setsL l
def setsL:List Tree->List (Nat->Bool)
 |[]=>[]
 |t::r=>setsT t++setsL r
def headSets:List Tree->List (Nat->Bool)
 |[]=>[]
 |t::_=>setsT t
end
def sq (Ns:List Bud)(L:List (Nat->Bool)):List (Nat->Bool):=Ns.foldl (fun L N=>N.put L) L
theorem xzve:∀ (Ns:List Bud) (X:Bud) (L:List (Nat->Bool)),(Ns.foldl Bud.cat X).put L=sq Ns (X.put L)
 |[],_,_=>rfl
 |a::r,X,L=>by rw [List.foldl_cons,xzve r];rfl
theorem sq_alt:∀ (Ns:List Bud) (X:Bud) (L:List (Nat->Bool)),(Ns.foldl Bud.alt X).put L=sq Ns (X.put L)
 |[],_,_=>rfl
 |a::r,X,L=>by rw [List.foldl_cons,sq_alt r];rfl
theorem xzti:∀ (Ns:List Bud) (L:List (Nat->Bool)),(restN Ns).put L=sq Ns L
 |[],_=>rfl
 |a::r,L=>by
  simp only [restN,Bud.put];rw [xzti r];rfl
theorem xztj:∀ (Ns:List Bud) (L:List (Nat->Bool)),sq (plsLast Ns) L=sq Ns L
 |[],_=>rfl
 |[a],_=>rfl
 |a::b::r,L=>by
  have:=xztj (b::r) (a.put L);simp only [plsLast];exact this
theorem sq_rep (lo:Nat)(Ns:List Bud)(L:List (Nat->Bool)):(repN lo Ns).put L=sq Ns L:=by
 unfold repN;rw [Bud.put,xzti,xzve]
 show sq (Ns.drop lo) (sq (Ns.take lo) L)=sq Ns L
 unfold sq;rw [<-List.foldl_append,List.take_append_drop]
def Puts (f:List (Nat->Bool)->List (Nat->Bool))(n:Nat)(ss:List (Nat->Bool)):Prop:=∀ L,n+ss.length<=L.length->f L=L.take n++ss++L.drop (n+ss.length)
theorem Puts.none (n:Nat):Puts (fun L=>L) n []:=fun L _=>by simp
theorem Puts.comp {f g:List (Nat->Bool)->List (Nat->Bool)}{n:Nat}{s1 s2:List (Nat->Bool)}(h1:Puts f n s1)(h2:Puts g (n+s1.length) s2):Puts (fun L=>g (f L)) n (s1++s2):=fun L hL=>by
 rw [List.length_append]at hL ⊢;have e1:=h1 L (by omega)
 have hlen:(L.take n++s1++L.drop (n+s1.length)).length=L.length:=by simp;omega
 have e2:=h2 (f L) (by rw [e1,hlen];omega)
 show g (f L)=_
 rw [e2,e1]
 have ht:(L.take n++s1).length=n+s1.length:=by simp;omega
 rw [List.take_left' ht]
 have hd:(L.take n++s1++L.drop (n+s1.length)).drop (n+s1.length+s2.length)=L.drop (n+(s1.length+s2.length)):=by
  rw [List.drop_append,ht];rw [List.drop_of_length_le (by rw [ht];omega),List.nil_append,List.drop_drop]
  congr 1
  omega
 rw [hd]
 simp
theorem xztk (f:Nat->Bud×Nat)(ss:List (Nat->Bool))(h2:∀ n,(f n).2=n+ss.length)(hp:∀ n,Puts (f n).1.put n ss):∀ (c n:Nat),Puts (sq (cpN f c n).1) n (List.replicate c ss).flatten
 |0,n=>Puts.none n
 |c+1,n=>by
  have ih:=xztk f ss h2 hp c (f n).2;rw [h2]at ih;have:=(hp n).comp ih;rw [List.replicate_succ,List.flatten_cons];simp only [cpN];rw [h2];exact this
theorem cp_len {ss:List (Nat->Bool)}(c:Nat):(List.replicate c ss).flatten.length=ss.length*c:=by
 induction c with
 |zero=>rfl
 |succ c ih=>rw [List.replicate_succ,List.flatten_cons,List.length_append,ih,Nat.mul_succ];omega
mutual
theorem xzel:∀ T:Tree,T.okT->(setsT T).length=T.plN
 | .node k m l lo hi,h=>by
  unfold Tree.okT at h;obtain⟨⟨hk1,hk4,hk0⟩,hTl⟩:=h;have hs:=setsL_len l hTl
  have hpl:(Tree.node k m l lo hi).plN=((if k=1 then 1 else 0)+sumN l)*(if k=4 then(copiesI lo hi).toNat else 1):=by unfold Tree.plN;rfl
  unfold setsT;rw [hpl]
  by_cases h1:k=1
  ·subst h1
   obtain rfl:=hk1 rfl
   simp [sumN]
  ·rw [if_neg h1,if_neg h1]
   by_cases h4:k=4
   ·rw [if_pos h4,if_pos h4,cp_len]
    obtain⟨t,rfl⟩:∃ t,l=[t]:=List.length_eq_one_iff.1 (hk4 h4);simp only [setsL,headSets,List.append_nil,sumN]at hs ⊢;rw [hs];simp
   ·rw [if_neg h4,if_neg h4]
    simpa using hs
theorem setsL_len:∀ l:List Tree,okTs l->(setsL l).length=sumN l
 |[],_=>rfl
 |t::r,h=>by
  unfold okTs at h;simp only [setsL,sumN,List.length_append];rw [xzel t h.1,setsL_len r h.2]
end
mutual
theorem xzvf:∀ (T:Tree) (n:Nat),T.okT->Puts (outT T n).1.put n (setsT T)
 | .node k m l lo hi,n,hT=>by
  have hlen:=xzel _ hT;have hT0:=hT;unfold Tree.okT at hT;obtain⟨⟨hk1,hk4,hk0⟩,hTl⟩:=hT;have hs:=outs_puts l;unfold outT
  split
  ·rename_i h
   rw [h]at hlen;rw [List.length_eq_zero_iff.1 hlen];exact Puts.none n
  ·rename_i hne
   split
   ·rename_i h
    unfold setsT;rw [if_pos h];intro L hL;simp only [List.length_singleton]at hL ⊢
    show L.set n m=_
    rw [List.set_eq_take_append_cons_drop,if_pos (by omega)]
    simp
   ·rename_i h1
    split
    ·rename_i h2
     unfold setsT;rw [if_neg h1,if_neg (by omega)];have:=hs n hTl
     show Puts (catL (outs l n).1).put n _
     intro L hL;rw [<-this L hL]
     cases (outs l n).1 with
     |nil=>rfl
     |cons a r=>exact xzve r a L
    ·rename_i h2
     split
     ·rename_i h3
      unfold setsT;rw [if_neg h1,if_neg (by omega)];have:=hs n hTl
      show Puts (altL (outs l n).1).put n _
      intro L hL;rw [<-this L hL]
      cases (outs l n).1 with
      |nil=>rfl
      |cons a r=>exact sq_alt r a L
     ·rename_i h3
      by_cases h4:k=4
      ·obtain⟨t,rfl⟩:∃ t,l=[t]:=List.length_eq_one_iff.1 (hk4 h4)
       have hT1:t.okT:=xzer hTl t (by simp)
       have ht:∀ n,Puts (headOut [t] n).1.put n (setsT t):=fun n=>by
        have:=hs n hTl;intro L hL;have h5:=this L (by simpa [setsL]using hL);simp only [outs,setsL,List.append_nil]at h5;exact h5
       have hc:=xztk (headOut [t]) (setsT t) (fun n=>by rw [xzel t hT1];exact xzhu t n hT1) ht (copiesI lo hi).toNat n;unfold setsT;rw [if_neg h1,if_pos h4]
       show Puts (repN lo.toNat (if hi<0 then plsLast _ else _)).put n _
       intro L hL;rw [sq_rep];have h6:=hc L hL
       split
       ·rw [xztj];exact h6
       ·exact h6
      ·have:=hk0 h1 h2 h3 h4
       subst this
       exfalso
       apply hne
       unfold Tree.plN
       simp [sumN,h1]
theorem outs_puts:∀ (l:List Tree) (n:Nat),okTs l->Puts (sq (outs l n).1) n (setsL l)
 |[],n,_=>Puts.none n
 |t::r,n,h=>by
  unfold okTs at h;have h1:=xzvf t n h.1;have h2:=outs_puts r (outT t n).2 h.2;rw [xzhu t n h.1,<-xzel t h.1]at h2;simp only [outs,setsL];rw [xzhu t n h.1,<-xzel t h.1];exact h1.comp h2
end
end
section
open Go.RowKit
theorem xzjf (p:Prt){i j:Nat}(hij:i<=j):∀ (n:Nat) (S:Mk) (l:List Prt),j<=S.sets.length->(copyN p i j n S l).1.sets=S.sets++(List.replicate n ((S.sets.drop i).take (j - i))).flatten
 |0,S,l,_=>by simp [copyN]
 |n+1,S,l,hj=>by
  unfold copyN
  have hlen:((S.sets.drop i).take (j - i)).length=j - i:=by simp;omega
  rw [xzjf p hij n (copiedS S i j) _ (by simp only [copiedS,List.length_append,hlen];omega)]
  have e:((copiedS S i j).sets.drop i).take (j - i)=(S.sets.drop i).take (j - i):=by
   simp only [copiedS];rw [List.drop_append_of_le_length (by omega),List.take_append_of_le_length (by simp;omega)]
  rw [e,List.replicate_succ,List.flatten_cons]
  simp [copiedS]
mutual
theorem xzls:∀ (T:Tree) (S:Mk),T.okT->S.Ok->(partP T S).1.sets=S.sets++setsT T
 | .node k m l lo hi,S,hT,hS=>by
  have hT0:=hT;unfold Tree.okT at hT;obtain⟨⟨hk1,hk4,hk0⟩,hTl⟩:=hT;have hs:=parts_sets l S hTl hS;unfold partP setsT
  by_cases h1:k=1
  ·rw [if_pos h1,if_pos h1];rfl
  ·rw [if_neg h1,if_neg h1]
   by_cases h2:k=2
   ·rw [if_pos h2,if_neg (by omega)];exact hs
   ·rw [if_neg h2]
    by_cases h3:k=3
    ·rw [if_pos h3,if_neg (by omega)];exact hs
    ·rw [if_neg h3]
     by_cases h4:k=4
     ·rw [if_pos h4,if_pos h4]
      obtain⟨t,rfl⟩:∃ t,l=[t]:=List.length_eq_one_iff.1 (hk4 h4)
      by_cases hz:(copiesI lo hi).toNat=0
      ·rw [if_pos hz,hz];simp
      ·rw [if_neg hz]
       simp only [headSets,setsL,List.append_nil]at hs ⊢
       have hle:S.sets.length<=(partsP [t] S).1.sets.length:=by rw [hs];simp
       rw [xzjf _ hle _ _ _ (Nat.le_refl _),hs]
       have e:((S.sets++setsT t).drop S.sets.length).take ((S.sets++setsT t).length - S.sets.length)=setsT t:=by
        rw [List.drop_left,List.length_append,Nat.add_sub_cancel_left,List.take_length]
       rw [e];obtain⟨c,hc⟩:∃ c,(copiesI lo hi).toNat=c+1:=⟨(copiesI lo hi).toNat - 1,by omega⟩;rw [hc,Nat.add_sub_cancel,List.replicate_succ,List.flatten_cons,List.append_assoc]
     ·rw [if_neg h4,if_neg h4]
      have:=hk0 h1 h2 h3 h4;subst this
      simp [setsL]
theorem parts_sets:∀ (l:List Tree) (S:Mk),okTs l->S.Ok->(partsP l S).1.sets=S.sets++setsL l
 |[],S,_,_=>by simp [partsP,setsL]
 |t::r,S,h,hS=>by
  unfold okTs at h;have h1:=xzls t S h.1 hS;have h2:=parts_sets r (partP t S).1 h.2 (xzbj t S h.1 hS).1;simp only [partsP,setsL];rw [h2,h1,List.append_assoc]
end
theorem xzqb {n n':Nat}:∀ (Ns:List Bud) (X:Bud),X.rng n n'->(∀ N∈Ns,N.rng n n')->(Ns.foldl Bud.cat X).rng n n'
 |[],_,h,_=>h
 |a::r,X,h,hr=>xzqb r (X.cat a) ⟨h,hr a (by simp)⟩ fun N hN=>hr N (by simp [hN])
theorem xztl {n n':Nat}:∀ (Ns:List Bud) (X:Bud),X.rng n n'->(∀ N∈Ns,N.rng n n')->(Ns.foldl Bud.alt X).rng n n'
 |[],_,h,_=>h
 |a::r,X,h,hr=>xztl r (X.alt a) ⟨h,hr a (by simp)⟩ fun N hN=>hr N (by simp [hN])
theorem xzqc {n n':Nat}:∀ Ns:List Bud,(∀ N∈Ns,N.rng n n')->(restN Ns).rng n n'
 |[],_=>trivial
 |a::r,hr=>⟨⟨hr a (by simp),xzqc r fun N hN=>hr N (by simp [hN])⟩,trivial⟩
theorem xzqd {n n':Nat}:∀ Ns:List Bud,(∀ N∈Ns,N.rng n n')->∀ N∈plsLast Ns,N.rng n n'
 |[],_,N,hN=>by simp [plsLast]at hN
 |[a],hr,N,hN=>by
  simp only [plsLast,List.mem_singleton]at hN;subst hN;exact(show(Bud.pls a).rng n n' from hr a (by simp))
 |a::b::r,hr,N,hN=>by
  simp only [plsLast,List.mem_cons]at hN
  rcases hN with rfl|hN
  ·exact hr _ (by simp)
  ·exact xzqd (b::r) (fun N hN=>hr N (by simp at hN ⊢;right;exact hN)) N (by simpa [plsLast]using hN)
theorem rng_rep {n n':Nat}(lo:Nat)(Ns:List Bud)(h:∀ N∈Ns,N.rng n n'):(repN lo Ns).rng n n':=
 ⟨xzqb _ _ trivial fun N hN=>h N (List.mem_of_mem_take hN),xzqc _ fun N hN=>h N (List.mem_of_mem_drop hN)⟩
theorem rng_cp (f:Nat->Bud×Nat)(d:Nat)(h2:∀ n,(f n).2=n+d)(hp:∀ n,(f n).1.rng n (n+d)):∀ (c n:Nat),∀ N∈(cpN f c n).1,N.rng n (n+d*c)
 |0,n,N,hN=>by simp [cpN]at hN
 |c+1,n,N,hN=>by
  simp only [cpN,List.mem_cons]at hN
  rcases hN with rfl|hN
  ·exact xzcu (Nat.le_refl _) (by rw [Nat.mul_succ];omega) (hp n)
  ·have:=rng_cp f d h2 hp c (f n).2 N hN
   rw [h2]at this;exact xzcu (by omega) (by rw [Nat.mul_succ];omega) this
mutual
theorem out_rng:∀ (T:Tree) (n:Nat),T.okT->(outT T n).1.rng n (n+T.plN)
 | .node k m l lo hi,n,hT=>by
  unfold Tree.okT at hT;obtain⟨⟨hk1,hk4,hk0⟩,hTl⟩:=hT;have hs:=outs_rng l
  have hpl:(Tree.node k m l lo hi).plN=((if k=1 then 1 else 0)+sumN l)*(if k=4 then(copiesI lo hi).toNat else 1):=by unfold Tree.plN;rfl
  unfold outT
  split
  ·trivial
  ·rename_i hne
   split
   ·rename_i h
    subst h;obtain rfl:=hk1 rfl;rw [hpl];exact⟨Nat.le_refl _,by simp [sumN]⟩
   ·rename_i h1
    split
    ·rename_i h2
     rw [hpl,if_neg h1,if_neg (by omega),Nat.zero_add,Nat.mul_one];have:=hs n hTl
     show(catL (outs l n).1).rng n _
     revert this
     cases (outs l n).1 with
     |nil=>intro _;trivial
     |cons a r=>intro this;exact xzqb r a (this a (by simp)) fun N hN=>this N (by simp [hN])
    ·rename_i h2
     split
     ·rename_i h3
      rw [hpl,if_neg h1,if_neg (by omega),Nat.zero_add,Nat.mul_one];have:=hs n hTl
      show(altL (outs l n).1).rng n _
      revert this
      cases (outs l n).1 with
      |nil=>intro _;trivial
      |cons a r=>intro this;exact xztl r a (this a (by simp)) fun N hN=>this N (by simp [hN])
     ·rename_i h3
      by_cases h4:k=4
      ·obtain⟨t,rfl⟩:∃ t,l=[t]:=List.length_eq_one_iff.1 (hk4 h4)
       have hT1:t.okT:=xzer hTl t (by simp)
       have ht:∀ n,(headOut [t] n).1.rng n (n+t.plN):=fun n=>by
        have:=hs n hTl (headOut [t] n).1 (by simp [outs,headOut])
        simpa [sumN]using this
       have hc:=rng_cp (headOut [t]) t.plN (fun n=>xzhu t n hT1) ht (copiesI lo hi).toNat n;rw [hpl,if_neg h1,if_pos h4];simp only [sumN,Nat.zero_add,Nat.add_zero]
       show(repN lo.toNat (if hi<0 then plsLast _ else _)).rng n _
       refine rng_rep _ _ ?_
       split
       ·exact xzqd _ hc
       ·exact hc
      ·exfalso
       have:=hk0 h1 h2 h3 h4;subst this
       apply hne
       rw [hpl]
       simp [sumN,h1]
theorem outs_rng:∀ (l:List Tree) (n:Nat),okTs l->∀ N∈(outs l n).1,N.rng n (n+sumN l)
 |[],n,_,N,hN=>by simp [outs]at hN
 |t::r,n,h,N,hN=>by
  unfold okTs at h;simp only [outs,List.mem_cons]at hN;simp only [sumN]
  rcases hN with rfl|hN
  ·exact xzcu (Nat.le_refl _) (by omega) (out_rng t n h.1)
  ·have:=outs_rng r (outT t n).2 h.2 N hN
   rw [xzhu t n h.1]at this;exact xzcu (by omega) (by omega) this
end
end
section
open Go.RowKit
structure BsR (x:Bs)(l:List Tree):Prop where
 ok:x.S.Ok
 ln:x.S.sets.length=sumN l
 st:x.S.sets=setsL l
 le:x.E.length=x.S.sets.length
 fi:∀ q,hasI x.F q=(outs l 0).1.any fun N=>N.fi q
 la:∀ q,x.E.getD q false=(outs l 0).1.any fun N=>N.la q
 pr:∀ p q,p<x.S.sets.length->hasI (x.S.follow.getD p []) q=(outs l 0).1.any fun N=>N.pr p q
 po:∀ p q,((outs l 0).1.any fun N=>N.pr p q)=true->p<x.S.sets.length
theorem xzjg (t:Tree):∀ l:List Tree,setsL (l++[t])=setsL l++setsT t
 |[]=>by simp [setsL]
 |a::r=>by simp only [List.cons_append,setsL,xzjg t r,List.append_assoc]
theorem xzey:∀ l:List Tree,(∀ t∈l,t.ok=true)->okTs l
 |[],_=>by unfold okTs;trivial
 |t::r,h=>by unfold okTs;exact⟨xzcw t (h t (by simp)),xzey r fun y hy=>h y (by simp [hy])⟩
theorem xztm {x:Bs}{l:List Tree}(h:BsR x l)(t:Tree)(hokl:∀ y∈l,y.ok=true)(hok:t.ok=true)(i:Int):BsR (x.add i t) (l++[t])/\(partP t x.S).2.empty=(outT t (sumN l)).1.em:=by
 obtain⟨o1,o2,o3⟩:=xzbj t x.S (xzcw t hok) h.ok;obtain⟨r1,r2⟩:=ref_rel t hok x.S h.ok;have hst:=xzls t x.S (xzcw t hok) h.ok;have hn:=(outs_n l 0 (xzey l hokl)).1;have hsn:=xzfq t l 0;rw [hn,Nat.zero_add]at hsn;rw [h.ln]at r1;refine⟨?_,r1.em.symm⟩
 have hle:x.S.sets.length<=(partP t x.S).1.sets.length:=by omega
 have hln:=h.ln;have hlE:=h.le;unfold Bs.add;refine⟨o1,?_,?_,?_,?_,?_,?_,?_⟩<;>dsimp only
 ·rw [xzdl];omega
 ·rw [xzjg,hst,h.st]
 ·rw [xzdh,List.length_append,List.length_replicate];omega
 ·intro q
  rw [xzfz,h.fi q,hsn,List.any_append];simp [r1.fi q]
 ·intro q
  rw [xzgk _ _ (fun y hy=>by
   have:=xzfe o2 y hy
   rw [List.length_append,List.length_replicate];omega),hsn,List.any_append,<-h.la q]
  congr 1
  ·rw [List.getD_eq_getElem?_getD,List.getD_eq_getElem?_getD]
   by_cases ha:q<x.E.length
   ·rw [List.getElem?_append_left ha]
   ·rw [List.getElem?_append_right (by omega),List.getElem?_eq_none (l:=x.E) (by omega),List.getElem?_replicate]
    split<;>rfl
  ·simp [r1.la q]
 ·intro p q hp
  rw [hsn,List.any_append];simp only [List.any_cons,List.any_nil,Bool.or_false]
  by_cases hpl:p<x.S.sets.length
  ·rw [r2 p q hpl,h.pr p q hpl]
   have:(outT t (sumN l)).1.pr p q=false:=by
    rw [Bool.eq_false_iff];intro hh;have:=r1.out p q hh;omega
   rw [this,Bool.or_false]
  ·have h1:((outs l 0).1.any fun N=>N.pr p q)=false:=by
    rw [Bool.eq_false_iff];intro hh;exact hpl (h.po p q hh)
   rw [h1,Bool.false_or];exact(r1.pr p q (by omega) hp).symm
 ·intro p q hh
  rw [hsn,List.any_append,Bool.or_eq_true]at hh
  rcases hh with hh|hh
  ·have:=h.po p q hh;omega
  ·simp only [List.any_cons,List.any_nil,Bool.or_false]at hh
   exact(r1.out p q hh).2
theorem xzqe (l:List Tree)(hok:∀ t∈l,t.ok=true):∀ n,n<=l.length->BsR (Bs.all Bs.none 0 (l.take n)) (l.take n):=by
 intro n
 induction n with
 |zero=>
  intro _;exact⟨mk0_ok,rfl,rfl,rfl,fun q=>rfl,fun q=>rfl,fun p q hp=>by simp [Bs.all,Bs.none]at hp,fun p q hh=>by simp [outs]at hh⟩
 |succ n ih=>
  intro hn;rw [List.take_succ_eq_append_getElem (by omega),Bs.all_snoc];exact(xztm (ih (by omega)) l[n] (fun y hy=>hok y (List.mem_of_mem_take hy)) (hok _ (List.getElem_mem _)) _).1
theorem xzsr {n:Int}:∀ {c:Int} {a b:List Int}, -1<=c->risesB n c a=true->risesB n c b=true->(∀ q,hasI a q=hasI b q)->a=b:=by
 have key:∀ {c:Int} {l:List Int} {x:Int}, -1<=c->risesB n c l=true->(x∈l)->∃ q:Nat,x=(q:Int):=fun hc h hx=>by
  have:=xzdc _ _ h _ hx;exact Int.eq_ofNat_of_zero_le (by omega)
 intro c a
 induction a generalizing c with
 |nil=>
  intro b hc _ hb hm
  cases b with
  |nil=>rfl
  |cons y r=>
   obtain⟨q,rfl⟩:=key hc hb (List.mem_cons_self ..);have:=hm q
   simp [hasI]at this
 |cons x a ih=>
  intro b hc ha hb hm
  cases b with
  |nil=>
   obtain⟨q,rfl⟩:=key hc ha (List.mem_cons_self ..);have:=hm q
   simp [hasI]at this
  |cons y b=>
   have hx:=ha;have hy:=hb;simp only [risesB,Bool.and_eq_true,decide_eq_true_eq]at ha hb;obtain⟨xq,rfl⟩:=key hc hx (List.mem_cons_self ..);obtain⟨yq,rfl⟩:=key hc hy (List.mem_cons_self ..)
   have e:(xq:Int)=yq:=by
    have h1:(xq:Int)∈((yq:Int)::b):=hasI_iff.1 (by rw [<-hm xq];exact hasI_iff.2 (List.mem_cons_self ..));have h2:(yq:Int)∈((xq:Int)::a):=hasI_iff.1 (by rw [hm yq];exact hasI_iff.2 (List.mem_cons_self ..))
    rcases List.mem_cons.1 h1 with h1|h1
    ·exact h1
    ·rcases List.mem_cons.1 h2 with h2|h2
     ·exact h2.symm
     ·have g1:=xzdc _ _ hb.2 _ h1
      have g2:=xzdc _ _ ha.2 _ h2;omega
   have e':xq=yq:=by omega
   subst e'
   congr 1
   refine ih (by omega) ha.2 hb.2 fun q=>?_
   have:=hm q
   by_cases hq:q=xq
   ·subst hq
    have z:∀ {l:List Int},risesB n (q:Int) l=true->hasI l q=false:=fun hl=>by
     rw [Bool.eq_false_iff];intro hh;have:=xzdc _ _ hl _ (hasI_iff.1 hh);omega
    rw [z ha.2,z hb.2]
   ·have z:((xq:Int)==(q:Int))=false:=by simp;omega
    simpa [hasI,z]using this
end
section
open Go.RowKit
def numsF (n:Nat)(f:Nat->Bool):List Int:=((List.range n).filter f).map fun(i:Nat)=>(i:Int)
theorem xzjh (n:Nat)(f:Nat->Bool):numsF (n+1) f=numsF n f++(if f n then [(n:Int)]else []):=by
 unfold numsF;rw [List.range_succ,List.filter_append,List.map_append]
 congr 1
 cases h:f n<;>simp [h]
theorem xzlt (f:Nat->Bool)(q:Nat):∀ n,hasI (numsF n f) q=(decide (q<n)&&f q)
 |0=>by simp [numsF,hasI]
 |n+1=>by
  rw [xzjh,xzfz,xzlt f q n]
  by_cases hq:q=n
  ·subst hq
   cases f q<;>simp [hasI]
  ·have e:decide (q<n+1)=decide (q<n):=decide_eq_decide.2 (by omega)
   have e2:hasI (if f n then [(n:Int)]else []) q=false:=by
    split
    ·simp [hasI];omega
    ·rfl
   rw [e,e2,Bool.or_false]
theorem xzez (f:Nat->Bool):∀ n m:Nat,n<=m->risesB m (-1) (numsF n f)=true
 |0,_,_=>rfl
 |n+1,m,h=>by
  rw [xzjh];have h1:=xzez f n m (by omega)
  split
  ·refine xzeb h1 ?_
   have h2:=xzgl (xzez f n n (Nat.le_refl _)) (by omega);simp only [risesB,Bool.and_true,Bool.and_eq_true,decide_eq_true_eq];exact⟨h2,by omega⟩
  ·rw [List.append_nil];exact h1
theorem xzgn (n:Nat)(f:Nat->Bool):listB ((List.range n).map f)=numsF n f:=by
 unfold listB numsF;simp only [List.length_map,List.length_range]
 congr 1
 refine List.filter_congr fun i hi=>?_
 have hi:i<n:=List.mem_range.1 hi;rw [List.getD_eq_getElem?_getD,List.getElem?_map,List.getElem?_range hi];rfl
theorem xzqf {n:Nat}{r:List Int}(h:risesB n (-1) r=true):numsF n (hasI r)=r:=by
 refine xzsr (n:=n) (by omega) (xzez _ n n (Nat.le_refl _)) h fun q=>?_
 rw [xzlt]
 by_cases hq:q<n
 ·simp [hq]
 ·have:hasI r q=false:=by
   rw [Bool.eq_false_iff];intro hh;have:=xzdc _ _ h _ (hasI_iff.1 hh);omega
  simp [this]
theorem xzna (l:List Tree)(hok:∀ t∈l,t.ok=true):(buildN l).sets=setsL l/\(buildN l).sets.length=sumN l/\(numsF (sumN l) fun q=>(outs l 0).1.any fun N=>N.fi q)=(buildN l).first/\
 ((List.range (sumN l)).map fun q=>(outs l 0).1.any fun N=>N.la q)=(buildN l).ends/\((List.range (sumN l)).map fun p=>numsF (sumN l) fun q=>(outs l 0).1.any fun N=>N.pr p q)=(buildN l).follow:=by
 have h:=xzqe l hok l.length (Nat.le_refl _);rw [List.take_length]at h;obtain⟨ps,h2⟩:=xzsg l hok;have hl:=h.ln;refine⟨h.st,h.ln,?_,?_,?_⟩
 ·have e:(fun q=>(outs l 0).1.any fun N=>N.fi q)=hasI (Bs.all Bs.none 0 l).F:=by funext q;exact(h.fi q).symm
  rw [e];have:=h2.fr;rw [hl]at this;exact xzqf this
 ·show _=(Bs.all Bs.none 0 l).E
  refine List.ext_getElem (by simp [h.le,hl]) fun q hq hq2=>?_
  rw [List.getElem_map,List.getElem_range,<-h.la q,List.getD_eq_getElem?_getD,List.getElem?_eq_getElem hq2];rfl
 ·show _=(Bs.all Bs.none 0 l).S.follow
  have hfl:=h.ok.1
  refine List.ext_getElem (by simp [hfl,hl]) fun p hp hp2=>?_
  rw [List.getElem_map,List.getElem_range]
  have e:(fun q=>(outs l 0).1.any fun N=>N.pr p q)=hasI ((Bs.all Bs.none 0 l).S.follow.getD p []):=by
   funext q;exact(h.pr p q (by omega)).symm
  have hr:=h.ok.2.getD p;rw [hl]at hr;rw [e,xzqf hr,List.getD_eq_getElem?_getD,List.getElem?_eq_getElem hp2];rfl
end
section
open Go.RowKit
attribute [local irreducible] FreeW
structure BldA (w u:World)(j cnt:Nat)(em:Int)(R:List Int)(Ns:List Bud)(u5 vr:Value):Prop where
 below:Below w.heap.size w u
 b0:BlkIs u w.heap.size 42 #[.slice none 0 0,.slice none 0 0,.slice none 0 0,.slice none 0 0,.slice none 0 0,.int .i64 0]
 b1:BlkIs u (w.heap.size+1) 42 #[.slice none 0 0,vr,.slice none 0 0,.slice none 0 0,.slice none 0 0,.int .i64 em]
 b2:BlkIs u (w.heap.size+2) 3 #[.int .i64 (cnt:Nat)]
 own:∃ xs,u.ownsRow (w.heap.size+3) 55 1 u5 j xs/\NdL u Ns xs
 rul:RowI (w.heap.size+3) u vr R
 sz:w.heap.size+3<=u.heap.size
theorem BldA.on {w u u':World}{j cnt cnt':Nat}{em:Int}{R:List Int}{Ns:List Bud}{u5 vr:Value}(h:BldA w u j cnt em R Ns u5 vr)(ho:On (w.heap.size+2) u u')(hc:BlkIs u' (w.heap.size+2) 3 #[.int .i64 (cnt':Nat)]):BldA w u' j cnt' em R Ns u5 vr:=by
 obtain⟨xs,g1,g2⟩:=h.own;refine⟨ho.below h.below (Nat.le_refl _) (by omega),ho.blk (by omega) h.b0,ho.blk (by omega) h.b1,hc,⟨xs,xzaq g1 fun k hk=>?_,g2.kept fun k cs hk=>ho.blk (xzdj hk h.b2 (by decide)) hk⟩,xzaq h.rul fun k hk=>?_,Nat.le_trans h.sz ho.size⟩
 ·have:=World.ownsRow.lt g1 k hk
  exact ho.block k this.2 (by omega)
 ·have:=World.ownsRow.lt h.rul k hk
  exact ho.block k this.2 (by omega)
theorem BldA.step {w u u':World}{j cnt:Nat}{em:Int}{R:List Int}{Ns:List Bud}{u5 vr:Value}(h:BldA w u j cnt em R Ns u5 vr)(hb:Below u.heap.size u u'):BldA w u' j cnt em R Ns u5 vr:=h.on (On.of hb) (h.b2.step hb)
theorem BldA.node {w u W5:World}{j cnt:Nat}{em:Int}{R:List Int}{Ns:List Bud}{N:Bud}{u5 v5 vr:Value}{A:Option Addr}{xs:List Value}(h:BldA w u j cnt em R Ns u5 vr)(hx:BudAt u N (.pointer A))(h1:u.ownsRow (w.heap.size+3) 55 1 u5 j xs)(h2:NdL u Ns xs)
 (h5:W5.ownsRow (w.heap.size+3) 55 1 v5 (j+1) (xs++[.pointer A]))(hg:u.grownBy W5 u5.ownBlock):BldA w W5 (j+1) cnt em R (Ns++[N]) v5 vr:=by
 have hlow:∀ k,u5.ownBlock=some k->w.heap.size+3<=k:=fun k hk=>(World.ownsRow.lt h1 k hk).1
 refine⟨⟨hg.os.trans h.below.os,hg.tape.trans h.below.tape,hg.output.trans h.below.output,Nat.le_trans h.below.size hg.size,fun k hk=>(hg.block k (Nat.lt_of_lt_of_le hk h.below.size) (fun e=>by have:=hlow k e.symm;omega)).trans (h.below.block k hk)⟩,
  h.b0.grown hg (xzct h1 h.b0 (by decide)),h.b1.grown hg (xzct h1 h.b1 (by decide)),h.b2.grown hg (xzct h1 h.b2 (by decide)),⟨_,h5,(h2.snoc hx).kept fun k cs hk=>hk.grown hg (xzct h1 hk (by decide))⟩,xzaq h.rul fun k hk=>?_,Nat.le_trans h.sz hg.size⟩
 have hlt:=World.ownsRow.lt h.rul k hk
 refine hg.block k hlt.2 fun e=>?_
 rcases h.rul.2 with⟨e2,_⟩|⟨g,cap,cur,e2,_,hb,_⟩
 ·rw [e2]at hk;simp [Value.ownBlock]at hk
 ·rw [e2]at hk
  simp [Value.ownBlock]at hk
  subst hk;exact xzct h1 (show BlkIs u g 3 cur from hb) (by decide) e
theorem xzem {B k n z:Nat}{W:World}{v:Value}{xs:List Value}{t e:TypeId}{cs:Array Value}(h:W.ownsRow B e z v n xs)(hk:BlkIs W k t cs)(ht:t≠e):some k≠v.ownBlock:=by
 rcases h.2 with⟨rfl,_⟩|⟨g,cap,cur,rfl,h1,h2,_⟩
 ·intro e;simp [Value.ownBlock]at e
 ·intro e
  simp [Value.ownBlock]at e
  exact xzdj hk (show BlkIs W g _ cur from h2) ht e
theorem BldA.rule {w u W5:World}{j cnt:Nat}{em i:Int}{R:List Int}{Ns:List Bud}{u5 vr v5:Value}(h:BldA w u j cnt em R Ns u5 vr)(h5:RowI (w.heap.size+3) W5 v5 (R++[i]))(hg:u.grownBy W5 vr.ownBlock):
 BldA w (W5.setCell ⟨w.heap.size+1,1,none⟩ v5) j cnt em (R++[i]) Ns u5 v5:=by
 have hlow:∀ k,vr.ownBlock=some k->w.heap.size+3<=k:=fun k hk=>(World.ownsRow.lt h.rul k hk).1
 have hkeep:∀ (k:Nat) (t:TypeId) (cs:Array Value),k≠w.heap.size+1->BlkIs u k t cs->some k≠vr.ownBlock->BlkIs (W5.setCell ⟨w.heap.size+1,1,none⟩ v5) k t cs:=fun k t cs hk hb ho=>(hb.grown hg ho).far hk _
 obtain⟨xs,g1,g2⟩:=h.own;have hr0:=h.rul;unfold RowI at hr0
 have hb2:some (w.heap.size+2)≠vr.ownBlock:=fun e=>by have:=hlow _ e.symm;omega
 have hb1:some (w.heap.size+1)≠vr.ownBlock:=fun e=>by have:=hlow _ e.symm;omega
 have hb0:some w.heap.size≠vr.ownBlock:=fun e=>by have:=hlow _ e.symm;omega
 refine⟨⟨hg.os.trans h.below.os,hg.tape.trans h.below.tape,hg.output.trans h.below.output,by rw [World.size_setCell];exact Nat.le_trans h.below.size hg.size,fun k hk=>(Below.heap_setCell _ _ _ _ (by show k≠w.heap.size+1;omega)).trans ((hg.block k (Nat.lt_of_lt_of_le hk h.below.size) (fun e=>by have:=hlow k e.symm;omega)).trans (h.below.block k hk))⟩,
  hkeep _ _ _ (by omega) h.b0 hb0,?_,hkeep _ _ _ (by omega) h.b2 hb2,⟨xs,xzaq g1 fun k hk=>?_,g2.kept fun k cs hk=>hkeep k _ cs (xzdj hk h.b1 (by decide)) hk (xzem hr0 hk (by decide))⟩,xzaq h5 fun k hk=>?_,by rw [World.size_setCell];exact Nat.le_trans h.sz hg.size⟩
 ·have:=(h.b1.grown hg hb1).put 1 v5
  simpa using this
 ·have hlt:=World.ownsRow.lt g1 k hk
  refine(Below.heap_setCell _ _ _ _ (by show k≠w.heap.size+1;omega)).trans (hg.block k hlt.2 fun e=>?_)
  rcases g1.2 with⟨e2,_⟩|⟨g,cap,cur,e2,_,hb,_⟩
  ·rw [e2]at hk;simp [Value.ownBlock]at hk
  ·rw [e2]at hk
   simp [Value.ownBlock]at hk
   subst hk;exact xzem hr0 (show BlkIs u g 55 cur from hb) (by decide) e
 ·have hlt:=World.ownsRow.lt h5 k hk
  exact Below.heap_setCell _ _ _ _ (by show k≠w.heap.size+1;omega)
theorem BldA.emp {w u:World}{j cnt:Nat}{em em':Int}{R:List Int}{Ns:List Bud}{u5 vr:Value}(h:BldA w u j cnt em R Ns u5 vr):BldA w (u.setCell ⟨w.heap.size+1,5,none⟩ (.int .i64 em')) j cnt em' R Ns u5 vr:=by
 obtain⟨xs,g1,g2⟩:=h.own;have ho:On (w.heap.size+1) u (u.setCell ⟨w.heap.size+1,5,none⟩ (.int .i64 em')):=On.put _;refine⟨ho.below h.below (Nat.le_refl _) (by omega),ho.blk (by omega) h.b0,?_,ho.blk (by omega) h.b2,⟨xs,xzaq g1 fun k hk=>?_,g2.kept fun k cs hk=>ho.blk (xzdj hk h.b1 (by decide)) hk⟩,xzaq h.rul fun k hk=>?_,by rw [World.size_setCell];exact h.sz⟩
 ·have:=h.b1.put 5 (.int .i64 em')
  simpa using this
 ·have:=World.ownsRow.lt g1 k hk
  exact ho.block k this.2 (by omega)
 ·have:=World.ownsRow.lt h.rul k hk
  exact ho.block k this.2 (by omega)
end
section
open Go.RowKit
theorem xzji (m:Nat->Bool):∀ n i:Nat,i<n*4->(cellsS (List.replicate n m))[i]? =some (.int .u64 (wd m (i%4):Nat))
 |0,i,h=>by omega
 |n+1,i,h=>by
  have e:cellsS (List.replicate (n+1) m)=[.int .u64 (wd m 0:Nat),.int .u64 (wd m 1:Nat),.int .u64 (wd m 2:Nat),.int .u64 (wd m 3:Nat)]++cellsS (List.replicate n m):=by
   rw [List.replicate_succ];simp [cellsS]
  rw [e]
  match i,h with
  |0,_=>rfl
  |1,_=>rfl
  |2,_=>rfl
  |3,_=>rfl
  |i+4,h=>
   rw [List.getElem?_append_right (by simp)];have:=xzji m n i (by omega)
   simpa using this
theorem xzss (n:Nat):madeCells #[Value.int .u64 0,.int .u64 0,.int .u64 0,.int .u64 0] (n*4)=(cellsS (List.replicate n no8)).toArray:=by
 refine Array.ext_getElem? fun i=>?_
 unfold madeCells
 by_cases h:i<n*4
 ·have h2:=xzji no8 n i h
  have h3:(cellsS (List.replicate n no8)).toArray[i]? =some (.int .u64 (wd no8 (i%4):Nat)):=by rw [<-h2];simp
  rw [h3]
  have hw:wd no8 (i%4)=0:=by
   have:i%4=0\/i%4=1\/i%4=2\/i%4=3:=by omega
   rcases this with e|e|e|e<;>rw [e]<;>decide+kernel
  rw [hw]
  have h4:i%4=0\/i%4=1\/i%4=2\/i%4=3:=by omega
  rcases h4 with e|e|e|e<;>simp [h,e]
 ·rw [Array.getElem?_eq_none (by simp;omega),Array.getElem?_eq_none (by rw [xzew];simp;omega)]
theorem xzst (n:Nat)(h:n<=1099511627776)(w:World):(Instr.makeSlice 25 (.int .i64 (n:Nat)) (.int .i64 (n:Nat))).run Try.prog w=.ok (.slice (some ⟨w.heap.size,0,none⟩) n n) (w.alloc (.cells (cellsS (List.replicate n no8)).toArray 37)):=by
 obtain⟨i0,hi0,hz0,hz1,hz2⟩:=info_parts (show(Try.prog.info? 37).map (fun i=>(i.zero,i.size,i.bytes))=some (some (.agg #[.int .u64 0,.int .u64 0,.int .u64 0,.int .u64 0]),4,32)by kernel_rfl);have hr:=run_make (P:=Try.prog) w 25 37 i0 _ Try.underlying25 hi0 hz0 .i64 .i64 n n (by omega) (by omega) (by rw [hz2];omega) (by omega);simp only [hz1,Int.toNat_natCast]at hr;rw [show(Value.agg #[Value.int .u64 0,.int .u64 0,.int .u64 0,.int .u64 0]).cells=#[Value.int .u64 0,.int .u64 0,.int .u64 0,.int .u64 0]from rfl,xzss]at hr;exact hr
theorem xzqg (n:Nat)(h:n<=1099511627776)(w:World):(Instr.makeSlice 59 (.int .i64 (n:Nat)) (.int .i64 (n:Nat))).run Try.prog w=.ok (.slice (some ⟨w.heap.size,0,none⟩) n n) (w.alloc (.cells (madeCells #[.slice none 0 0] n) 28)):=
 run_make_row' (P:=Try.prog) 59 28 (.slice none 0 0) 24 Try.underlying59 (by kernel_rfl) rfl .i64 .i64 n (by omega) (by omega) w
end
end Go.Proofs.Ythoaaginadjaoaa
