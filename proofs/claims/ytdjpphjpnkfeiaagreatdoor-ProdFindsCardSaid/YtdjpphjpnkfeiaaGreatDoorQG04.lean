/-
 AN AUTOMATON WITH CHOICES THAT CAME IN, and a row of numbers. No condition.
-/
import Derived.Laws.IdiomArrays
import Derived.Maps.OwnSet
import Derived.DeepKeys4
import Derived.Deep.RegionHeld3
import Derived.Maps.AppendAt
import Derived.OwnWalkIn
import Derived.Test.YtdjpphjpnkfeiaaGreatDoorQG03
import Derived.Test.YtdjpphjpnkfeiaaGreatDoorQG02
import Derived.Test.YtdjpphjpnkfeiaaGreatDoorQG01
namespace Go.Proofs.YtdjpphjpnkfeiaaGreatDoor
section
open Go.ChangeShapes Go.WideShapes Go.ChangeAt Go.RowKit Go.Deep
section
variable {H : Type} {enc : TypeId × Value → H} {W : World} {base : Nat} {spare : Nat → Bool} {held : Bool}
theorem xzoz {α:Type} [Inhabited α] {te ts:TypeId}{k:Nat}(hu:Tryz.prog.underlying ts=some (.slice te))(hce:Tryz.prog.cellsOf te=k)(hk:0<k)(Q:α->List Value->Prop)
 (hone:∀ (fuel:Nat) (cs:List Value) (x:DataW H×List MemPlace),cs.length=k->DataW.trod enc Tryz.prog W base spare held fuel te cs=some x->∃ a,Q a cs)
 {fuel:Nat} {v:Value} {x:DataW H×List MemPlace} (hf:DataW.trod enc Tryz.prog W base spare held fuel ts [v]=some x):
 ∃ (A:Option Addr) (l:List α) (c:Nat),v=.slice A l.length c/\(l.length<=c/\c<=9223372036854775807)/\(l≠[]->∃ b o,A=some ⟨b,o,none⟩/\b<W.heap.size/\∀ (i:Nat) (h:i<l.length),∃ cs,Q l[i] cs/\∀ j v,cs[j]? =some v->W.cell? ⟨b,o+i*k+j,none⟩=some v):=by
 rcases DataW.trod_slice hu hf with⟨e5,hx⟩|⟨a,len,cap,elems,rest,n',hn',e5,hx,_,hl,hm,hel,hcell,_,_⟩
 ·simp at e5
  subst e5;exact⟨none,[],0,rfl,⟨Nat.le_refl _,by omega⟩,fun h=>absurd rfl h⟩
 ·simp at e5
  subst e5
  have hone2:∀ i,i<len->∃ q:α×List Value,Q q.1 q.2/\W.cells? base (a.add (i*k)) k=some q.2:=fun i hi=>by
   have h1:=hcell i hi;rw [hce,List.getElem?_eq_getElem (by omega),Option.bind_eq_some_iff]at h1;obtain⟨cs',h2,h3⟩:=h1;obtain⟨q,hq⟩:=hone _ _ _ (World.cells?_some h2).2.1 h3;exact⟨(q,cs'),hq,h2⟩
  obtain⟨F,hF⟩:=choose_lt hone2
  have hll:((List.range len).map fun i=>(F i).1).length=len:=by simp
  have hcellx:∀ i,i<len->∀ j v,(F i).2[j]? =some v->W.cell? ((a.add (i*k)).add j)=some v:=fun i hi j v hv=>by
   have h8:=World.cells?_some (hF i hi).2
   have hj:j<k:=by have:=(List.getElem?_eq_some_iff.1 hv).1;have:=h8.2.1;omega
   rw [<-hv];exact h8.2.2 j hj
  refine⟨some a,(List.range len).map fun i=>(F i).1,cap,by rw [hll],⟨by rw [hll];exact hl,by unfold maxLen at hm;omega⟩,fun hne=>?_⟩
  have hpos:0<len:=by
   rcases Nat.eq_zero_or_pos len with h|h
   ·subst h;simp at hne
   ·exact h
  obtain⟨ab,ao,spot⟩:=a;obtain⟨v,r,hv⟩:∃ v r,(F 0).2=v::r:=List.exists_cons_of_ne_nil (by intro e;have:=(World.cells?_some (hF 0 hpos).2).2.1;rw [e]at this;simp at this;omega);have h0:=hcellx 0 hpos 0 v (by rw [hv];rfl)
  have hspot:spot=none:=by simpa [Addr.add]using World.cell?_spot h0
  subst hspot
  have h0b:W.cell? ⟨ab,ao,none⟩=some v:=by simpa [Addr.add_lit]using h0
  refine⟨ab,ao,rfl,World.block_lt_of_cell? W ⟨ab,ao,none⟩ h0b,fun i hi=>?_⟩
  have hi':i<len:=by simpa using hi
  refine⟨(F i).2,?_,fun j v hv=>?_⟩
  ·simpa using(hF i hi').1
  ·have:=hcellx i hi' j v hv
   rw [Addr.add_lit,Addr.add_lit]at this;exact this
theorem xzle:Tryz.prog.cellsOf 26=1:=by kernel_rfl
theorem xzpa {fuel:Nat}{v:Value}{x:DataW H×List MemPlace}(hf:DataW.trod enc Tryz.prog W base spare held fuel 26 [v]=some x):∃ l,IntsV W l v:=by
 obtain⟨A,l,c,h1,h2,h3⟩:=xzoz (α:=Int) Tryz.underlying26 xzoy (by decide) (fun a cs=>cs=[.int .i64 a]) (fun fuel cs x hlen h=>by
  obtain⟨n,e,_,_⟩:=DataW.trod_int Tryz.underlying3 h
  exact⟨n,e⟩) hf
 refine⟨l,A,c,h1,h2,fun hne=>?_⟩;obtain⟨b,o,e,hlt,hg⟩:=h3 hne;refine⟨b,o,e,hlt,fun i hi=>?_⟩;obtain⟨cs,e2,h4⟩:=hg i hi;have:=h4 0 _ (by rw [e2];rfl)
 simpa using this
theorem xztc {fuel:Nat}{v:Value}{x:DataW H×List MemPlace}(hf:DataW.trod enc Tryz.prog W base spare held fuel 25 [v]=some x):∃ l,RowsI W l v:=by
 obtain⟨A,l,c,h1,h2,h3⟩:=xzoz (α:=List Int) Tryz.underlying25 xzle (by decide) (fun a cs=>∃ u,cs=[u]/\IntsV W a u) (fun fuel cs x hlen h=>by
  rcases DataW.trod_slice Tryz.underlying26 h with⟨e5,_⟩|⟨a,len,cap,elems,rest,n',hn',e5,_⟩
  all_goals
   subst e5;obtain⟨l,hl⟩:=xzpa h
   exact⟨l,_,rfl,hl⟩) hf
 refine⟨l,A,c,h1,h2,fun hne=>?_⟩;obtain⟨b,o,e,hlt,hg⟩:=h3 hne;refine⟨b,o,e,hlt,fun i hi=>?_⟩;obtain⟨cs,⟨u,e2,h5⟩,h4⟩:=hg i hi;have:=h4 0 _ (by rw [e2];rfl);exact⟨u,by simpa using this,h5⟩
end
end
section
open Go.RowKit
section
variable {α β : Type} [DecidableEq α] [DecidableEq β]
def old (g:Nat->α)(b:Nat):Bool:=(List.range b).any fun a=>decide (g a=g b)
def cnt (g:Nat->α):Nat->Nat
 |0=>0
 |b+1=>cnt g b+(if old g b then 0 else 1)
def fst' (g:Nat->α)(b:Nat):Nat:=((List.range (b+1)).find? fun a=>decide (g a=g b)).getD b
def num (g:Nat->α)(b:Nat):Nat:=cnt g (fst' g b)
theorem old_iff {g:Nat->α}{b:Nat}:old g b=true↔ ∃ a,a<b/\g a=g b:=by
 unfold old;rw [List.any_eq_true]
 constructor
 ·rintro⟨a,ha,h⟩;exact⟨a,List.mem_range.1 ha,of_decide_eq_true h⟩
 ·rintro⟨a,ha,h⟩;exact⟨a,List.mem_range.2 ha,decide_eq_true h⟩
theorem old_not {g:Nat->α}{b:Nat}:old g b=false↔ ∀ a,a<b->g a≠g b:=by
 rw [<-Bool.not_eq_true,old_iff];exact⟨fun h a ha e=>h ⟨a,ha,e⟩,fun h ⟨a,ha,e⟩=>h a ha e⟩
theorem xzby (g:Nat->α)(b:Nat):cnt g (b+1)=cnt g b+(if old g b then 0 else 1):=rfl
theorem xztd (g:Nat->α):∀ b,cnt g b<=b
 |0=>Nat.le_refl _
 |b+1=>by have:=xztd g b;rw [xzby];split<;>omega
theorem xzgy (g:Nat->α){a b:Nat}(h:a<=b):cnt g a<=cnt g b:=by
 induction h with
 |refl=>exact Nat.le_refl _
 |step _ ih=>rw [xzby];omega
theorem xzgz {p:Nat->Bool}:∀ (n:Nat),(∃ i,i<n/\p i=true)->∃ i,(List.range n).find? p=some i/\i<n/\p i=true/\∀ j,j<i->p j=false
 |0,⟨i,hi,_⟩=>absurd hi (by omega)
 |n+1,⟨i,hi,hp⟩=>by
  rw [List.range_succ,List.find?_append]
  by_cases h:∃ i,i<n/\p i=true
  ·obtain⟨i,h1,h2,h3,h4⟩:=xzgz n h
   exact⟨i,by rw [h1];rfl,by omega,h3,h4⟩
  ·have hin:i=n:=by
    rcases Nat.lt_or_ge i n with hlt|hge
    ·exact absurd ⟨i,hlt,hp⟩ h
    ·omega
   subst hin
   have hn:(List.range i).find? p=none:=by
    rw [List.find?_eq_none];intro x hx hpx;exact h ⟨x,List.mem_range.1 hx,hpx⟩
   refine⟨i,by rw [hn];simp [hp],by omega,hp,fun j hj=>?_⟩
   cases hpj:p j
   ·rfl
   ·exact absurd ⟨j,hj,hpj⟩ h
theorem xzds (g:Nat->α)(b:Nat):fst' g b<=b/\g (fst' g b)=g b/\∀ j,j<fst' g b->g j≠g b:=by
 obtain⟨i,h1,h2,h3,h4⟩:=xzgz (p:=fun a=>decide (g a=g b)) (b+1) ⟨b,by omega,decide_eq_true rfl⟩
 have e:fst' g b=i:=by unfold fst';rw [h1];rfl
 rw [e];exact⟨by omega,of_decide_eq_true h3,fun j hj=>of_decide_eq_false (h4 j hj)⟩
theorem xzkc {g:Nat->α}{b i:Nat}(h1:g i=g b)(h2:∀ j,j<i->g j≠g b):fst' g b=i:=by
 obtain⟨_,k2,k3⟩:=xzds g b
 rcases Nat.lt_trichotomy (fst' g b) i with h|h|h
 ·exact absurd k2 (h2 _ h)
 ·exact h
 ·exact absurd h1 (k3 _ h)
theorem xzte {g:Nat->α}{b:Nat}(h:old g b=false):num g b=cnt g b:=by
 unfold num;rw [xzkc (i:=b) rfl (old_not.1 h)]
theorem xzha {g:Nat->α}{a b:Nat}(h:g a=g b):num g a=num g b:=by
 obtain⟨_,h2,h3⟩:=xzds g a;unfold num;rw [xzkc (b:=b) (i:=fst' g a) (h2.trans h) (fun j hj=>by rw [<-h];exact h3 j hj)]
theorem xzkd (g:Nat->α)(b:Nat):old g (fst' g b)=false:=by
 obtain⟨_,h2,h3⟩:=xzds g b
 exact old_not.2 fun a ha=>by rw [h2];exact h3 a ha
theorem yzdl (g:Nat->α)(b:Nat):num g b<cnt g (b+1):=by
 have h:=xzkd g b;have h1:=(xzds g b).1
 have h2:cnt g (fst' g b+1)=num g b+1:=by rw [xzby,h];rfl
 have h3:=xzgy g (a:=fst' g b+1) (b:=b+1) (by omega);omega
theorem num_le (g:Nat->α)(b:Nat):num g b<=b:=Nat.le_trans (xzgy g (xzds g b).1) (xztd g b)
theorem xztf {g:Nat->α}{a b:Nat}(h:num g a=num g b):g a=g b:=by
 have ha:=xzkd g a;have hb:=xzkd g b
 have key:∀ i j,old g i=false->i<j->cnt g i<cnt g j:=fun i j hi hij=>by
  have:=xzgy g (a:=i+1) (b:=j) hij;rw [xzby,hi]at this;exact this
 rcases Nat.lt_trichotomy (fst' g a) (fst' g b)with h1|h1|h1
 ·have:=key _ _ ha h1;unfold num at h;omega
 ·rw [<-(xzds g a).2.1,h1,(xzds g b).2.1]
 ·have:=key _ _ hb h1;unfold num at h;omega
theorem xztg (g:Nat->α){k:Nat}:∀ b,k<cnt g b->∃ a,a<b/\num g a=k
 |0,h=>absurd h (by simp [cnt])
 |b+1,h=>by
  rcases Nat.lt_or_ge k (cnt g b)with hlt|hge
  ·obtain⟨a,h1,h2⟩:=xztg g b hlt
   exact⟨a,by omega,h2⟩
  ·rw [xzby]at h
   cases ho:old g b
   ·rw [ho]at h
    exact⟨b,by omega,by rw [xzte ho];simp at h;omega⟩
   ·rw [ho]at h;simp at h;omega
theorem xzyj {g:Nat->α}{g':Nat->β}{b:Nat}(h:∀ a,a<b->(g a=g b↔g' a=g' b)):old g b=old g' b:=by
 rw [Bool.eq_iff_iff,old_iff,old_iff];exact⟨fun⟨a,ha,e⟩=>⟨a,ha,(h a ha).1 e⟩,fun⟨a,ha,e⟩=>⟨a,ha,(h a ha).2 e⟩⟩
theorem xzgj {g:Nat->α}{g':Nat->β}{n:Nat}(h:∀ a b,a<n->b<n->(g a=g b↔g' a=g' b)):∀ b,b<=n->cnt g b=cnt g' b
 |0,_=>rfl
 |b+1,hb=>by rw [xzby,xzby,xzgj h b (by omega),xzyj fun a ha=>h a b (by omega) (by omega)]
theorem xzpb {g:Nat->α}{g':Nat->β}{n:Nat}(h:∀ a b,a<n->b<n->(g a=g b↔g' a=g' b)){b:Nat}(hb:b<n):num g b=num g' b:=by
 obtain⟨h1,h2,h3⟩:=xzds g b;unfold num;rw [xzkc (g:=g') (b:=b) (i:=fst' g b) ((h _ _ (by omega) hb).1 h2) (fun j hj e=>h3 j hj ((h _ _ (by omega) hb).2 e)),xzgj h _ (by omega)]
theorem num_num (g:Nat->α){n b:Nat}(hb:b<n):num (num g) b=num g b:=
 xzpb (n:=n) (fun _ _ _ _=>⟨xztf,xzha⟩) hb
theorem cnt_num (g:Nat->α)(b:Nat):cnt (num g) b=cnt g b:=
 xzgj (n:=b) (fun _ _ _ _=>⟨xztf,xzha⟩) b (Nat.le_refl _)
end
def MayTo (f:Nat->Nat)(t:Nat):Prop:=∀ b,b<t->f b=num f b
theorem xzlf {f:Nat->Nat}{t:Nat}(h:cnt f t<f t):f t≠num f t:=by
 have:=yzdl f t;rw [xzby]at this
 split at this<;>omega
theorem xzpc {f:Nat->Nat}{t:Nat}(hm:MayTo f t)(h:f t=cnt f t):f t=num f t/\cnt f (t+1)=cnt f t+1:=by
 have ho:old f t=false:=old_not.2 fun a ha e=>by
  have h1:=hm a ha;have h2:=yzdl f a;have h3:=xzgy f (a:=a+1) (b:=t) (by omega);omega
 exact⟨by rw [xzte ho,h],by rw [xzby,ho];rfl⟩
theorem xzpd {f:Nat->Nat}{t:Nat}(hm:MayTo f t)(h:f t<cnt f t):f t=num f t/\cnt f (t+1)=cnt f t:=by
 obtain⟨a,ha,e⟩:=xztg f t h;have h1:=hm a ha
 have h2:f a=f t:=by omega
 have ho:old f t=true:=old_iff.2 ⟨a,ha,h2⟩;exact⟨by rw [<-xzha h2,e],by rw [xzby,ho];rfl⟩
theorem MayTo.succ {f:Nat->Nat}{t:Nat}(hm:MayTo f t)(h:f t=num f t):MayTo f (t+1):=fun b hb=>by
 rcases Nat.lt_or_ge b t with h1|h1
 ·exact hm b h1
 ·obtain rfl:b=t:=by omega
  exact h
def mayB (f:Nat->Nat)(n:Int):Bool:=(List.range 256).all (fun b=>decide (f b=num f b))&&decide (n=(cnt f 256:Nat))
theorem mayB_iff {f:Nat->Nat}{n:Int}:mayB f n=true↔MayTo f 256/\n=(cnt f 256:Nat):=by
 unfold mayB;rw [Bool.and_eq_true,List.all_eq_true,decide_eq_true_iff];exact and_congr ⟨fun h b hb=>of_decide_eq_true (h b (List.mem_range.2 hb)),fun h b hb=>decide_eq_true (h b (List.mem_range.1 hb))⟩ Iff.rfl
theorem xzth {f:Nat->Nat}{n:Int}(h:MayTo f 256):mayB f n=decide (n=(cnt f 256:Nat)):=by
 rw [Bool.eq_iff_iff,mayB_iff,decide_eq_true_iff];exact⟨fun h=>h.2,fun h'=>⟨h,h'⟩⟩
theorem xzti {f:Nat->Nat}{n:Int}{t:Nat}(ht:t<256)(h:f t≠num f t):mayB f n=false:=by
 rw [<-Bool.not_eq_true,mayB_iff]
 exact fun h'=>h (h'.1 t ht)
theorem xzke {α:Type} [DecidableEq α] (g:Nat->α):mayB (num g) (cnt g 256:Nat)=true:=
 mayB_iff.2 ⟨fun b hb=>(num_num g hb).symm,by rw [cnt_num]⟩
def cellsN (N:Nat)(g:Nat->Value):Array Value:=((List.range N).map g).toArray
theorem xzax (N:Nat)(g:Nat->Value):(cellsN N g).size=N:=by simp [cellsN]
theorem xzbs {N:Nat}(g:Nat->Value){i:Nat}(h:i<N):(cellsN N g)[i]? =some (g i):=by
 unfold cellsN;rw [List.getElem?_toArray,List.getElem?_map,List.getElem?_range h];rfl
theorem xzap {N:Nat}{g h:Nat->Value}(e:∀ i,i<N->g i=h i):cellsN N g=cellsN N h:=by
 unfold cellsN;rw [List.map_congr_left (fun i hi=>e i (List.mem_range.1 hi))]
theorem xzer (N:Nat)(g:Nat->Value)(i:Nat)(v:Value):(cellsN N g).setIfInBounds i v=cellsN N (fun j=>if j=i then v else g j):=by
 apply Array.ext_getElem?
 intro j
 by_cases hj:j<N
 ·rw [Array.getElem?_setIfInBounds,xzbs _ hj,xzbs _ hj,xzax]
  by_cases e:i=j
  ·subst e;simp [hj]
  ·have e': ¬ j=i:=fun h=>e h.symm
   simp [e,e']
 ·rw [Array.getElem?_eq_none (by rw [Array.size_setIfInBounds,xzax];omega),Array.getElem?_eq_none (by rw [xzax];omega)]
theorem xzes {N:Nat}{g:Nat->Value}(h:∀ i,(g i).oneCell'=true):(cellsN N g).all (·.oneCell')=true:=by
 rw [Array.all_eq_true_iff_forall_mem];intro v hv;unfold cellsN at hv;simp only [List.mem_toArray,List.mem_map]at hv;obtain⟨i,_,rfl⟩:=hv;exact h i
def clsG (f:Nat->Nat)(n:Int)(i:Nat):Value:=if i<256 then .int .u8 (f i)else .int .i64 n
def clsC (f:Nat->Nat)(n:Int):Array Value:=cellsN 257 (clsG f n)
theorem xzaj (f:Nat->Nat)(n:Int):(clsC f n).size=257:=xzax _ _
theorem xzlg (f:Nat->Nat)(n:Int){i:Nat}(h:i<256):(clsC f n)[i]? =some (.int .u8 (f i)):=by
 unfold clsC;rw [xzbs _ (by omega)];unfold clsG;rw [if_pos h]
theorem xztj (f:Nat->Nat)(n:Int):(clsC f n)[256]? =some (.int .i64 n):=by
 unfold clsC;rw [xzbs _ (by omega)];rfl
theorem xzej (f:Nat->Nat)(n:Int):(clsC f n).all (·.oneCell')=true:=xzes fun i=>by unfold clsG;split<;>rfl
theorem xzdt {f f':Nat->Nat}(n:Int)(h:∀ b,b<256->f b=f' b):clsC f n=clsC f' n:=xzap fun i _=>by
 unfold clsG
 split
 ·rename_i hi;rw [h i hi]
 ·rfl
def updN (f:Nat->Nat)(i v:Nat):Nat->Nat:=fun j=>if j=i then v else f j
theorem yzdm (f:Nat->Nat)(n:Int){i:Nat}(h:i<256)(v:Nat):(clsC f n).setIfInBounds i (.int .u8 v)=clsC (updN f i v) n:=by
 unfold clsC;rw [xzer]
 refine xzap fun j _=>?_
 unfold clsG updN
 by_cases e:j=i
 ·subst e;simp [h]
 ·simp [e]
theorem xzyk (f:Nat->Nat)(n n':Int):(clsC f n).setIfInBounds 256 (.int .i64 n')=clsC f n':=by
 unfold clsC;rw [xzer]
 refine xzap fun j hj=>?_
 unfold clsG
 by_cases e:j=256
 ·subst e;simp
 ·have:j<256:=by omega
  simp [e,this]
attribute [irreducible] clsC
end
section
open Go.RowKit
def ofC (f:Nat->Nat):Array Value:=cellsN 256 fun i=>.int .u8 (f i)
def rowC (R:Nat->Nat):Array Value:=cellsN 512 fun i=>.int .u64 (R i)
theorem xztk (f:Nat->Nat){i:Nat}(h:i<256):(ofC f)[i]? =some (.int .u8 (f i)):=xzbs _ h
theorem xzkf (R:Nat->Nat){i:Nat}(h:i<512):(rowC R)[i]? =some (.int .u64 (R i)):=xzbs _ h
theorem xzdh (R:Nat->Nat):(rowC R).size=512:=xzax _ _
theorem xzhb (f:Nat->Nat):(ofC f).size=256:=xzax _ _
theorem yzdn (R:Nat->Nat):(rowC R).all (·.oneCell')=true:=xzes fun _=>rfl
theorem xzda {R R':Nat->Nat}(h:∀ i,i<512->R i=R' i):rowC R=rowC R':=xzap fun i hi=>by rw [h i hi]
theorem xztl (R:Nat->Nat)(i v:Nat):(rowC R).setIfInBounds i (.int .u64 v)=rowC (updN R i v):=by
 unfold rowC;rw [xzer]
 refine xzap fun j _=>?_
 unfold updN
 by_cases e:j=i<;>simp [e]
theorem infoC:(Tryz.prog.info? 33).map (·.size)=some 257:=by kernel_rfl
theorem infoR:(Tryz.prog.info? 24).map (·.size)=some 257:=by kernel_rfl
theorem infoO:(Tryz.prog.info? 22).map (·.size)=some 256:=by kernel_rfl
theorem infoW:(Tryz.prog.info? 206).map (·.size)=some 512:=by kernel_rfl
theorem zeroC (w:World):(zeroValue 33).run Tryz.prog w=.ok (.agg (clsC (fun _=>0) 0)) w:=
 (zero_of_info (P:=Tryz.prog) (t:=33) (v:=.agg (clsC (fun _=>0) 0)) (n:=257) (by kernel_rfl)).1 w
theorem zeroW (w:World):(zeroValue 206).run Tryz.prog w=.ok (.agg (rowC fun _=>0)) w:=
 (zero_of_info (P:=Tryz.prog) (t:=206) (v:=.agg (rowC fun _=>0)) (n:=512) (by kernel_rfl)).1 w
section
variable {w : World} {g : Nat} {t : TypeId} {f : Nat → Nat} {n : Int} {R : Nat → Nat}
theorem loadC (h:BlkIs w g t (clsC f n)):(Instr.loadAt 33 (.pointer (some ⟨g,0,none⟩))).run Tryz.prog w=.ok (.agg (clsC f n)) w:=by
 have:=run_loadAt_mid (P:=Tryz.prog) w g 0 33 (clsC f n).toList _ h.range Tryz.underlying33 rfl (by rw [infoC,Array.length_toList,xzaj]);rw [this]
theorem rangeO (h:BlkIs w g t (clsC f n)):w.rangeAt g 0 (ofC f).toList:=fun j v hv=>by
 have hj:j<256:=by have:=(List.getElem?_eq_some_iff.1 hv).1;rw [Array.length_toList,xzhb]at this;exact this
 rw [Nat.zero_add,h.cell j,xzlg f n hj];rw [Array.getElem?_toList,xztk f hj]at hv;exact hv
end
theorem part5 {xs:Array Value}{off:Nat}{v:Value}(hx:xs[off]? =some v)(w:World):(part 5 xs off).run Tryz.prog w=.ok v w:=run_part_plain w (by kernel_rfl) hx
theorem partW (R:Nat->Nat){b:Nat}(hb:b<256)(w:World):(part 204 (rowC R) (b*2)).run Tryz.prog w=.ok (.agg #[.int .u64 (R (2*b)),.int .u64 (R (2*b+1))]) w:=by
 have e:(rowC R).extract (b*2) (b*2+2)=#[.int .u64 (R (2*b)),.int .u64 (R (2*b+1))]:=by
  apply Array.ext_getElem?
  intro i;rw [Array.getElem?_extract,xzdh]
  by_cases hi:i<2
  ·rw [if_pos (by omega),xzkf R (by omega),Nat.mul_comm b 2]
   rcases(by omega:i=0\/i=1)with rfl|rfl<;>rfl
  ·rw [if_neg (by omega),Array.getElem?_eq_none (by simp;omega)]
 simp [part,e]
theorem idxO (f:Nat->Nat){b:Nat}(hb:b<256)(w:World):(Instr.index 22 (.agg (ofC f)) (.int .i64 b)).run Tryz.prog w=.ok (.int .u8 (f b)) w:=by
 have hs:(sizeOf 5).run Tryz.prog w=.ok 1 w:=by kernel_rfl
 have hp:=part5 (xztk f hb) w
 simp [Instr.index,run_underlying Tryz.underlying22,asIntOf,hs,hp,hb]
theorem idxW (R:Nat->Nat){b:Nat}(hb:b<256)(w:World):(Instr.index 206 (.agg (rowC R)) (.int .i64 b)).run Tryz.prog w=.ok (.agg #[.int .u64 (R (2*b)),.int .u64 (R (2*b+1))]) w:=by
 have hs:(sizeOf 204).run Tryz.prog w=.ok 2 w:=by kernel_rfl
 have hp:=partW R hb w
 simp [Instr.index,run_underlying Tryz.underlying206,asIntOf,hs,hp,hb]
theorem xzpe:Tryz.prog.built 33 [(1,.int .i64 1)]=some (clsC (fun _=>0) 1):=by kernel_rfl
theorem xzyl (f:Nat->Nat)(n:Int):Tryz.prog.built 33 [(0,.agg (ofC f)),(1,.int .i64 n)]=some (clsC f n):=by kernel_rfl
abbrev keyV (a b:Nat):Value:=.agg #[.int .u64 a,.int .u64 b]
def keyL (a b:Nat):Lit:=.string (keyBytes [.int .u64 a,.int .u64 b])
theorem wf64 {a:Nat}(h:a<18446744073709551616):(Lit.int .u64 a).wf=true:=WalkArith.wf_u64 (by omega)
theorem keyLaw:Maps.Keyed Tryz.prog 204:=
 Maps.Keyed.of_law (deep_law_laid (P:=Tryz.prog) (by kernel_rfl) (m:=2) (by omega) (of_decide_eq_true (by kernel_rfl)) (by kernel_rfl) (by kernel_rfl))
theorem yzdo {a b:Nat}(ha:a<18446744073709551616)(hb:b<18446744073709551616):keyOf Tryz.prog 204 (keyV a b)=some (keyL a b):=by
 have h1:Tryz.prog.keyType 204=true:=by kernel_rfl
 have h2:(keyV a b).formed Tryz.prog 204=true:=by kernel_rfl
 have hd:∃ d,Tryz.prog.types.size+1=d+2:=⟨Tryz.prog.types.size - 1,by have:1<=Tryz.prog.types.size:=of_decide_eq_true (by kernel_rfl);omega⟩;obtain⟨d,hd⟩:=hd
 have hc:Tryz.prog.cellsOf 204=2:=by kernel_rfl
 have hc1:Tryz.prog.cellsOf 46=1:=by kernel_rfl
 unfold keyOf;rw [Tryz.underlying204,hd]
 simp [h1,h2,Program.keyLits,Tryz.underlying204,Tryz.underlying46,hc,hc1,Value.cells,List.range_succ,wf64 ha,wf64 hb,keyL]
theorem yzcg {a b a' b':Nat}(ha:a<18446744073709551616)(hb:b<18446744073709551616)(ha':a'<18446744073709551616)(hb':b'<18446744073709551616)(h:keyL a b=keyL a' b'):a=a'/\b=b':=by
 have h1:=yzdo ha hb;have h2:=yzdo ha' hb';rw [h]at h1;have:=keyLaw.inj h1 h2;simp only [Value.agg.injEq,Array.mk.injEq,List.cons.injEq,Value.int.injEq,true_and,and_true,Int.natCast_inj]at this;exact this
theorem yzch (a b:Nat):WideAt.IsKeyLit (keyL a b):=trivial
attribute [irreducible] ofC rowC
end
section
open Go.RowKit
end
section
open Go.RowKit
end
section
open Go.RowKit
def SeqIs (m:Nat->Bool)(w:World):Ending->World->Prop:=fun e w'=>
 ∃ B,e=.returned (.func (.func 75) #[] #[.pointer (some ⟨B,0,none⟩)])/\BlkIs w' B 48 #[.int .u64 (wd m 0:Nat),.int .u64 (wd m 1:Nat),.int .u64 (wd m 2:Nat),.int .u64 (wd m 3:Nat)]/\w.heap.size<=B/\Below w.heap.size w w'
theorem xztm (m:Nat->Bool)(w:World):Calls Tryz.prog 57 #[setV m] w (SeqIs m w):=by
 go_enter Tryz.func57,Tryz.ntmps57
 go_wp2;go_ret;exact⟨w.heap.size,rfl,BlkIs.new _ _ _,Nat.le_refl _,(Below.refl _ _).alloc (Nat.le_refl _) _⟩
theorem xzlh (n:Nat)(hn:1<=n)(B n₀:Nat)(hn0:0<n₀)(m:Nat->Bool)(w:World)(hbox:BlkIs w B 48 #[.int .u64 (wd m 0:Nat),.int .u64 (wd m 1:Nat),.int .u64 (wd m 2:Nat),.int .u64 (wd m 3:Nat)])(hT:Tab w):
 SeqStopsK Fence.wide n Tryz.prog 75 #[.pointer (some ⟨B,0,none⟩)] (fun x:B256=>#[.int .u8 (x.1:Nat)]) (Below n₀) (fun xs:List B256=>xs.map (fun x=>x.1)=mems m 256) (fun pre:List B256=>pre.map (fun x=>x.1)<+:mems m 256) 256 w:=
 fun l J Jx W hW _ _ hY h0=>yzdi n hn l B n₀ hn0 m J Jx hY W (hbox.step hW) (hT.step hW) h0
def nextS (m:Nat->Bool)(k:Int):Int:=match mems (sLess m (sBelow k)) 256 with|[]=> -1|b::_=>(b:Int)
theorem yzdp {w2 W W':World}{g:Nat}{t:TypeId}{a b c d:Value}(hx:BlkIs w2 g t #[a,b,c,d])
 (h:Below w2.heap.size w2 W/\W.cell? ⟨g,0,none⟩=some a/\W.cell? ⟨g,1,none⟩=some b/\W.cell? ⟨g,2,none⟩=some c/\W.cell? ⟨g,3,none⟩=some d)(hb:Below W.heap.size W W'):
 Below w2.heap.size w2 W'/\W'.cell? ⟨g,0,none⟩=some a/\W'.cell? ⟨g,1,none⟩=some b/\W'.cell? ⟨g,2,none⟩=some c/\W'.cell? ⟨g,3,none⟩=some d:=
 have hb2:=h.1.trans (hb.mono h.1.size);have hx2:=(hx.step hb2).four
 ⟨hb2,hx2.1,hx2.2.1,hx2.2.2.1,hx2.2.2.2.1⟩
theorem xzfx {w w':World}{g:Nat}{t:TypeId}{cs:Array Value}{row:Option Nat}(h:BlkIs w g t cs)(hg:w.grownBy w' row)(hr:∀ r,row=some r->∃ o:Obj,w.heap[r]? =some o/\o.isCells=false):BlkIs w' g t cs:=by
 refine(hg.block g h.lt (fun e=>?_)).trans h;obtain⟨o,ho,hn⟩:=hr g e.symm;unfold BlkIs at h;rw [h]at ho
 cases ho
 cases hn
theorem xztn {w:World}{g:Nat}{t:TypeId}{x:Int}(h:BlkIs w g t #[.int .i64 x]):(loadVar 3 ⟨g,0,none⟩).run Tryz.prog w=.ok (.int .i64 x) w:=by
 have c:=h.cell 0
 simp at c
 go_simp
attribute [local go_sem] Oper.semAt_some
set_option maxRecDepth 100000 in
set_option maxHeartbeats 1000000 in
theorem yzdq (m:Nat->Bool)(k:Int)(hk:k<=9223372036854775807)(w:World)(hT:Tab w):
 Calls Tryz.prog 105 #[setV m,.int .i64 k] w fun e w'=>e=.returned (.int .i64 (nextS m k))/\Below w.heap.size w w':=by
 have HT:=zd hT;clear hT;refine(callsIn_wide (n:=3)).1 ?_;refine callsIn_of_wp_marks Tryz.func105 rfl trivial ?_ rfl;simp only [Tryz.ntmps105,List.size_toArray,List.length_cons,List.length_nil,Nat.reduceAdd,Nat.reduceSub,Array.replicate_succ,Array.replicate_zero,List.push_toArray,List.append_toArray,List.nil_append,List.cons_append];refine wpIn_wide.2 ?_;go_wp2;have hx0:=(BlkIs.new w 48 #[.int .u64 (wd m 0:Nat),.int .u64 (wd m 1:Nat),.int .u64 (wd m 2:Nat),.int .u64 (wd m 3:Nat)]).alloc (.cells #[.int .i64 0] 3);have hr0:=BlkIs.new (w.alloc (.cells #[.int .u64 (wd m 0:Nat),.int .u64 (wd m 1:Nat),.int .u64 (wd m 2:Nat),.int .u64 (wd m 3:Nat)] 48)) 3 #[.int .i64 0];rw [World.size_alloc]at hr0;have hB0:Below w.heap.size w ((w.alloc (.cells #[.int .u64 (wd m 0:Nat),.int .u64 (wd m 1:Nat),.int .u64 (wd m 2:Nat),.int .u64 (wd m 3:Nat)] 48)).alloc (.cells #[.int .i64 0] 3)):=((Below.refl _ _).alloc (Nat.le_refl _) _).alloc (by simp) _;generalize(w.alloc (.cells #[.int .u64 (wd m 0:Nat),.int .u64 (wd m 1:Nat),.int .u64 (wd m 2:Nat),.int .u64 (wd m 3:Nat)] 48)).alloc (.cells #[.int .i64 0] 3)=w2 at*;have HX:=zd hx0;have HR:=zd hr0;have HB:=zd hB0;clear hx0 hr0 hB0
 go_region_held3 (fun w'=>Below w2.heap.size w2 w'/\w'.cell? ⟨w.heap.size,0,none⟩=some (.int .u64 (wd m 0:Nat))/\w'.cell? ⟨w.heap.size,1,none⟩=some (.int .u64 (wd m 1:Nat))/\
  w'.cell? ⟨w.heap.size,2,none⟩=some (.int .u64 (wd m 2:Nat))/\w'.cell? ⟨w.heap.size,3,none⟩=some (.int .u64 (wd m 3:Nat)))
  ((first
    |exact yzdp HX.out (by assumption) hb1
    |exact⟨(Below.refl _ _).drew,HX.out.four.1,HX.out.four.2.1,HX.out.four.2.2.1,HX.out.four.2.2.2.1⟩))
  ((first
    |(go_at_call 124;go_must(refine(xzyc _ (by omega) _).mono ?_);rintro e w1 ⟨rfl,hb1⟩)
    |(go_at_call 123;go_must(refine(yzcx _ _ _).mono ?_);rintro e w1 ⟨rfl,hb1⟩)
    |(go_at_call 57;go_must(refine(xztm _ _).mono ?_);rintro e w1 ⟨B,rfl,hbox,hB0,hb1⟩)))
 have hB1:Below w2.heap.size w2 w1:=by
  have h:= ‹Below w2.heap.size w2 w1/\_›;exact h.1
 have hres:=HR.out.step hB1;have hBw:Below w.heap.size w w1:=HB.out.trans (hB1.mono HB.out.size);have hTab:=HT.out.step hBw;have HX1:=zd hbox;have HR1:=zd hres;have HB1:=zd hBw;have HT1:=zd hTab;have hpos:=HT.out.pos;clear ‹Below w2.heap.size w2 w1/\_› hbox hres hBw hTab hB1 hb1 hB0 HX HR HB HT;generalize hms:sLess m (sBelow k)=ms at*;have HMS:=zd hms;clear hms;go_wp2;refine(wpIn_wide (n:=3)).1 ?_
 refine wpIn_rangeFunc_ownF rfl (by omega) (gf:=75) (lb:=#[.pointer (some ⟨B,0,none⟩)]) rfl trivial (enters_of Tryz.func75 (by kernel_rfl) rfl)
  (xzlh _ (by omega) B w.heap.size hpos ms w1 HX1.out HT1.out) belowK_t (belowK_b (by simpa using HB1.out.size)) (Below.refl _ _) (fun _=>rfl)
  (fun pre W=>pre=[]/\BlkIs W (w.heap.size+1) 3 #[.int .i64 0]/\Below w.heap.size w W)
  (fun c pre W=>c=.ret/\∃ x:B256,pre=[x]/\BlkIs W (w.heap.size+1) 3 #[.int .i64 (x.1:Nat)]/\Below w.heap.size w W) ?hI ?hIx ⟨rfl,HR1.out,HB1.out⟩
  (fun x=>{tmps:=#[setV m,.int .i64 k,.pointer (some ⟨w.heap.size,0,none⟩),undef,.pointer (some ⟨w.heap.size+1,0,none⟩),.int .u8 (x.1:Nat),setV m,.int .i64 k,setV (sBelow k),setV ms,.func (.func 75) #[] #[.pointer (some ⟨B,0,none⟩)],.int .u8 (x.1:Nat),undef,undef],defers:=[]}) ?assign ?body ?done ?stop
 case hI=>
  exact OwnFrom.and (Own.from (fun s A B row hs _ _=>hs) _) (OwnFrom.and (Own.from (fun s A B row hs hg hr=>xzfx hs hg hr) _) (ownFrom_below (Nat.le_refl _) HB1.out.size))
 case hIx=>
  rintro c s A A' row ⟨hc,x,hs,hb,hB⟩ hg hr;exact⟨hc,x,hs,xzfx hb hg (fun r e=>(hr r e).2),ownFrom_below (β:=Unit) (Nat.le_refl _) HB1.out.size () A A' row hB hg hr⟩
 case assign=>
  intro l x W K hK
  gi_wp2
  exact hK
 case body=>
  rintro l pre x W ⟨rfl,hc,hB⟩ _;obtain⟨c0,f0⟩:W.cell? ⟨w.heap.size+1,0,none⟩=some (.int .i64 0)/\W.frozen? ⟨w.heap.size+1,0,none⟩=false:=⟨hc.cell 0,hc.frozen 0⟩;have hx:=x.2
  gi_wp2
  exact⟨KeepsOthers.setCell _ _ _,rfl,x,rfl,by simpa using hc.put 0 (.int .i64 (x.1:Nat)),hB.setCell (p:=⟨w.heap.size+1,0,none⟩) (Nat.le_add_right _ _) _⟩
 case done=>
  rintro D xs W hD hS ⟨rfl,hc,hB⟩ hK;obtain⟨c0,f0⟩:W.cell? ⟨w.heap.size+1,0,none⟩=some (.int .i64 0)/\W.frozen? ⟨w.heap.size+1,0,none⟩=false:=⟨hc.cell 0,hc.frozen 0⟩;go_wp2;have hK':=(KeepsOthers.setCell W ⟨w.heap.size+1,0,none⟩ (.int .i64 (-1))).same D _ hK rfl;refine⟨by simp,.inl ⟨_,_,rfl,run_takeDeferred hK',?_⟩⟩
  have hb':BlkIs (W.setCell ⟨w.heap.size+1,0,none⟩ (.int .i64 (-1))) (w.heap.size+1) 3 #[.int .i64 (-1)]:=by simpa using hc.put 0 (.int .i64 (-1))
  have hb2:=xzfx hb' (grownBy_putObj' _ D (.deferred none)) (fun r e=>by cases e;exact⟨_,hK',rfl⟩);have hl:=xztn hb2;refine⟨_,xzae (p:=4) (ty:=3) rfl rfl hl,?_,?_⟩
  ·unfold nextS;rw [HMS.out,<-hS];rfl
  ·exact(hB.setCell (p:=⟨w.heap.size+1,0,none⟩) (Nat.le_add_right _ _) _).trans (belowK_b (w:=w) (Nat.le_refl _) _ D _ _ (Nat.le_trans HB1.out.size hD) hK' rfl rfl)
 case stop=>
  rintro D c pre W hD hS ⟨rfl,x,rfl,hc,hB⟩ hK
  gi_wp2
  refine⟨by simp,.inl ⟨_,_,rfl,run_takeDeferred hK,?_⟩⟩;have hb2:=xzfx hc (grownBy_putObj' _ D (.deferred none)) (fun r e=>by cases e;exact⟨_,hK,rfl⟩);have hl:=xztn hb2;refine⟨_,xzae (p:=4) (ty:=3) rfl rfl hl,?_,?_⟩
  ·obtain⟨r,hr⟩:=hS
   unfold nextS;rw [HMS.out,<-hr];rfl
  ·exact hB.trans (belowK_b (w:=w) (Nat.le_refl _) _ D _ _ (Nat.le_trans HB1.out.size hD) hK rfl rfl)
end
section
open Go.RowKit
def BytesIs (l:List Nat)(w:World):Ending->World->Prop:=fun e w'=>
 ∃ A c,e=.returned (.slice A l.length c)/\ByteRow w' w'.heap.size A l/\Below w.heap.size w w'
theorem info5:(Tryz.prog.info? 5).map (fun i=>(i.zero,i.size,i.bytes))=some (some (.int .u8 0),1,1):=by kernel_rfl
theorem xzpf (m:Nat->Bool)(w:World):(binOp .eql 48 (setV m) (.agg #[.int .u64 0,.int .u64 0,.int .u64 0,.int .u64 0])).run Tryz.prog w=.ok (.bool (setEq m (sOf []))) w:=by
 have h:=xzla m (sOf []) w;simp only [setV,xzos]at h;exact h
theorem xzto (m:Nat->Bool):∀ t,cntN m t=(mems m t).length
 |0=>rfl
 |t+1=>by
  have ih:=xzto m t
  show cntN m t+(if m t then 1 else 0)=_
  unfold mems at*;rw [List.range_succ,List.filter_append,List.length_append,ih,List.filter_cons]
  cases m t<;>simp
theorem xziz {w:World}{base:Nat}{e:TypeId}{v:Value}{l:List Nat}(h:w.ownsRow base e 1 v l.length (l.map fun(x:Nat)=>Value.int .u8 (x:Int))):
 ∃ A c,v=.slice A l.length c/\ByteRow w w.heap.size A l:=by
 rcases h.2 with⟨rfl,hn⟩|⟨g,cap,cur,rfl,_,hh,_⟩
 ·exact⟨none,0,by rw [hn],fun hne=>absurd (List.eq_nil_of_length_eq_zero hn) hne⟩
 ·refine⟨_,_,rfl,fun _=>⟨g,0,rfl,(Array.getElem?_eq_some_iff.1 hh).1,fun k x hk=>?_⟩⟩
  have hlt:k<l.length:=(List.getElem?_eq_some_iff.1 hk).1;have:=h.cellAt k (by omega);rw [Nat.zero_add,this,List.getElem?_map,hk];rfl
attribute [local go_sem] Oper.semAt_some
set_option maxRecDepth 100000 in
set_option maxHeartbeats 1000000 in
theorem xztp (m:Nat->Bool)(hm:setEq m (sOf [])=false)(w:World)(hT:Tab w):
 Calls Tryz.prog 36 #[setV m] w (BytesIs (mems m 256) w):=by
 obtain⟨i0,hi,hz0,hz1,hz2⟩:=info_parts info5;have hcl:=xzto m 256;have hc256:=xzcr m 256;have hcount:=xzxz m;generalize cntN m 256=n at*
 have hmk:∀ u:World,(Instr.makeSlice 71 (.int .i64 0) (.int .i64 (n:Int))).run Tryz.prog u=
  .ok (.slice (some ⟨u.heap.size,0,none⟩) 0 n) (u.alloc (.cells (madeCells #[.int .u8 0] n) 5)):=fun u=>by
  have h:=run_make (P:=Tryz.prog) u 71 5 i0 (.int .u8 0) Tryz.underlying71 hi hz0 .i64 .i64 0 (n:Int) (Int.le_refl _) (by omega) (by rw [hz2];omega) (by omega)
  simpa [hz1,Value.cells]using h
 have HT:=zd hT;have HCL:=zd hcl;have HCO:=zd hcount;have HI0:=zd hi;have hq:=xzpf m;clear hT hcl hcount hi;refine(callsIn_wide (n:=3)).1 ?_;refine callsIn_of_wp_marks Tryz.func36 rfl trivial ?_ rfl;simp only [Tryz.ntmps36,List.size_toArray,List.length_cons,List.length_nil,Nat.reduceAdd,Nat.reduceSub,Array.replicate_succ,Array.replicate_zero,List.push_toArray,List.append_toArray,List.nil_append,List.cons_append];refine wpIn_wide.2 ?_
 go_wp2_with(first
  |(go_at_call 56;go_must(refine(HCO.out _).mono ?_);rintro e w1 ⟨rfl,hb1⟩;obtain⟨hc1,hf1,hz1'⟩:=belowStep (g:=w.heap.size) hb1 (by simp))
  |(go_at_call 57;go_must(refine(xztm _ _).mono ?_);rintro e w2 ⟨B,rfl,hbox,hB0,hb2⟩))
 have hBw1:Below w.heap.size w w1:=((Below.refl _ _).alloc (Nat.le_refl _) _).trans (hb1.mono (by simp));have hlw:w.heap.size<=w1.heap.size:=hBw1.size;have hBw2:Below w.heap.size w w2:=((hBw1.alloc hlw _).alloc (by simp;omega) _).trans (hb2.mono (by simp;omega));have hT2:=HT.out.step hBw2;have hpos:=HT.out.pos;have hl0:=Boxed.new (w1.alloc (.cells (madeCells #[.int .u8 0] n) 5)) 71 (.slice (some ⟨w1.heap.size,0,none⟩) 0 n);rw [World.size_alloc]at hl0;have hl2:Boxed w2 (w1.heap.size+1) 71 (.slice (some ⟨w1.heap.size,0,none⟩) 0 n):=(hb2.block _ hl0.lt).trans hl0;have hr0:=(World.ownsRow_made (base:=w.heap.size) (e:=5) (size:=1) w1 (madeCells #[.int .u8 0] n) n hlw (by unfold maxLen;omega) (by simp [madeCells])).kept (World.grownBy_alloc _ (.cells #[.slice (some ⟨w1.heap.size,0,none⟩) 0 n] 71) none) (.inr (by simp [Value.ownBlock]));have hr2:w2.ownsRow w.heap.size 5 1 (.slice (some ⟨w1.heap.size,0,none⟩) 0 n) 0 []:=hr0.kept (row:=none) ⟨hb2.os,hb2.tape,hb2.output,hb2.size,fun i hi _=>hb2.block i hi⟩ (.inr (by simp [Value.ownBlock]));have HB:=zd hbox;have HT2:=zd hT2;have HBW:=zd hBw2;have HL:=zd hl2;have HR:=zd hr2;generalize w1.heap.size=G at*;clear hb1 hc1 hf1 hz1' hbox hB0 hb2 hBw1 hBw2 hT2 hl0 hl2 hr0 hr2 HT HCO hmk hq;refine(wpIn_wide (n:=3)).1 ?_
 refine wpIn_rangeFunc_ownG rfl (by omega) (gf:=75) (lb:=#[.pointer (some ⟨B,0,none⟩)]) rfl trivial (enters_of Tryz.func75 (by kernel_rfl) rfl)
  (xzlh _ (by omega) B w.heap.size hpos m w2 HB.out HT2.out) belowK_t (belowK_b HBW.out.size) (Below.refl _ _) (fun _=>rfl)
  (fun pre W=>(∃ v,Boxed W (G+1) 71 v/\W.ownsRow w.heap.size 5 1 v pre.length (pre.map fun x=>.int .u8 (x.1:Nat)))/\Below w.heap.size w W)
  (fun _ _ _=>False) ?hI (fun _ _ _ _ _ h _ _=>h) ⟨⟨_,HL.out,HR.out⟩,HBW.out⟩
  (fun x=>{tmps:=#[setV m,.pointer (some ⟨w.heap.size,0,none⟩),.slice none 0 0,.pointer (some ⟨G+1,0,none⟩),.int .u8 (x.1:Nat),setV m,.agg #[.int .u64 0,.int .u64 0,.int .u64 0,.int .u64 0],.bool false,setV m,.int .i64 n,.slice (some ⟨G,0,none⟩) 0 n,setV m,
   .func (.func 75) #[] #[.pointer (some ⟨B,0,none⟩)],.int .u8 (x.1:Nat),undef,undef,undef,undef,undef],defers:=[]}) ?assign ?body ?done ?stop
 case hI=>
  rintro s A A' row ⟨⟨v,hv,hr⟩,hB⟩ hg hro
  have cells:∀ k cs t,A.heap[k]? =some (.cells cs t (0,0))->some k≠row:=fun k cs t hk e=>by
   obtain⟨_,o,ho,hc⟩:=hro k e.symm;rw [hk]at ho;cases ho;cases hc
  refine⟨⟨v,hv.kept hg (cells _ _ _ hv),hr.kept hg ?_⟩,ownFrom_below (β:=Unit) (Nat.le_refl _) HBW.out.size () A A' row hB hg hro⟩
  rcases hr.2 with⟨rfl,_⟩|⟨g,cap,cur,rfl,_,hh,_⟩
  ·exact .inl rfl
  ·exact .inr (cells _ _ _ hh)
 case assign=>
  intro l x W K hK
  gi_wp2
  exact hK
 case body=>
  rintro l pre x W ⟨⟨v,hv,hrow⟩,hB⟩ hlt;have hc:=hv.cell;have hi:=HI0.out
  gi_wp2_with (gi_at_builtin;refine wpListIn_append_own _ rfl _ _ 71 rfl w.heap.size 5 i0 (.int .u8 0) 1 1 Tryz.underlying71 hi hz0 hz1 hz2 rfl (by decide) _ _ _ rfl (hrow.alloc _) ⟨W.heap.size,0,none⟩ 1 1 [.int .u8 (x.1:Nat)] rfl rfl (cell_one_new _ _ _) (by simp [Value.oneCell']) (by unfold maxLen;omega) (by omega) (by have:=hB.size;simp;omega) ?_;intro v' w3 hown' hgrow _;obtain⟨g',cap',rfl⟩:=ownsRow_succ hown';obtain⟨hv1,hv2,hr2,hk2,hb2⟩:=hv.appended (by decide) hrow hB.size (by omega) hown' hgrow;have hc1:=hv1.cell;have hf1:=hv1.frozen)
  exact⟨hk2.from _,hb2,⟨_,hv2,by simpa using hr2⟩,hB.trans hb2⟩
 case done=>
  rintro D xs W hD hS ⟨⟨v,hv,hrow⟩,hB⟩ hK;have hc:=hv.cell;have hrow2:=ownsRow_putObj hrow (.deferred none) hK rfl;have hBe:=hB.trans (belowK_b (w:=w) (Nat.le_refl _) W D _ (.deferred none) (Nat.le_trans HBW.out.size hD) hK rfl rfl);have HRO:=zd hrow2;have HBE:=zd hBe;clear hrow2 hBe hrow hB;go_wp2;refine⟨by simp,.inl ⟨_,_,rfl,run_takeDeferred hK,?_⟩⟩
  have hlen:xs.length=(mems m 256).length:=by rw [<-hS,List.length_map]
  have hmap:(xs.map fun x=>Value.int .u8 (x.1:Nat))=(mems m 256).map fun(x:Nat)=>Value.int .u8 (x:Int):=by rw [<-hS,List.map_map];rfl
  have hro:=HRO.out;rw [hlen,hmap]at hro;obtain⟨A,c,rfl,hrow⟩:=xziz hro;exact⟨_,results_tmp rfl _ _ _,A,c,rfl,hrow,HBE.out⟩
 case stop=>
  rintro D c pre W _ _ h _;exact h.elim
theorem xztq {m:Nat->Bool}(h:setEq m (sOf [])=true):mems m 256=[]:=by
 have h2:=setEq_iff.1 h;unfold mems;rw [List.filter_eq_nil_iff];intro b hb;rw [h2 b (List.mem_range.1 hb)]
 simp [sOf]
set_option maxHeartbeats 400000 in
theorem xztr (m:Nat->Bool)(hm:setEq m (sOf [])=true)(w:World):Calls Tryz.prog 36 #[setV m] w (BytesIs (mems m 256) w):=by
 rw [xztq hm];have hq:=xzpf m
 go_enter Tryz.func36,Tryz.ntmps36
 go_wp2;go_ret;exact⟨none,0,rfl,fun h=>absurd rfl h,(Below.refl _ _).alloc (Nat.le_refl _) _⟩
theorem xzpg (m:Nat->Bool)(w:World)(hT:Tab w):Calls Tryz.prog 36 #[setV m] w (BytesIs (mems m 256) w):=by
 cases hm:setEq m (sOf [])
 ·exact xztp m hm w hT
 ·exact xztr m hm w
end
section
open Go.RowKit
theorem xznb (m:Nat->Bool)(k:Nat):(mems m k).length<=k:=by
 have:=List.length_filter_le m (List.range k);rw [List.length_range]at this;exact this
end
section
open Go.RowKit
end
end Go.Proofs.YtdjpphjpnkfeiaaGreatDoor
