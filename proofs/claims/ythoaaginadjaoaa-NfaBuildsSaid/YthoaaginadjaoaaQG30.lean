/-
 A TREE's TEXTS AS A LANGUAGE, and what begins one of them: the reference's Begins says that some bytes more make a text. Condition: each node of the tree may be.
-/
import Derived.Test.YthoaaginadjaoaaQG27
import Derived.Test.YthoaaginadjaoaaQG29
import Derived.Test.YthoaaginadjaoaaQG07
namespace Go.Proofs.Ythoaaginadjaoaa
section
open Go.RowKit
theorem mk0_ok:(Mk.mk [] []).Ok:=⟨rfl,fun r hr=>by cases hr⟩
def Lg (T:Tree)(w:List UInt8):Prop:=T.takes w=true
def LgIt (t:Tree):Nat->List UInt8->Prop
 |0,w=>w=[]
 |n+1,w=>∃ u v,w=u++v/\Lg t u/\LgIt t n v
section
variable {m : Nat → Bool} {l : List Tree} {lo hi : Int} {w : List UInt8}
end
theorem LgIt.cat {t:Tree}:∀ {a b:Nat} {u v:List UInt8},LgIt t a u->LgIt t b v->LgIt t (a+b) (u++v)
 |0,b,u,v,h,h'=>by
  obtain rfl:u=[]:=h;rw [Nat.zero_add];exact h'
 |a+1,b,u,v,⟨x,y,h1,h2,h3⟩,h'=>by
  subst h1;rw [Nat.succ_add,List.append_assoc];exact⟨x,y++v,rfl,h2,h3.cat h'⟩
theorem LgIt.some {t:Tree}{v:List UInt8}(h:Lg t v):∀ n,∃ e,LgIt t n e
 |0=>⟨[],rfl⟩
 |n+1=>by
  obtain⟨e,he⟩:=LgIt.some h n;exact⟨v++e,v,e,rfl,h,he⟩
end
section
open Go.RowKit
end
section
open Go.RowKit
theorem hasI_iff {l:List Int}{q:Nat}:hasI l q=true↔(q:Int)∈l:=by
 unfold hasI;rw [List.any_eq_true]
 constructor
 ·rintro⟨x,h1,h2⟩
  have:x=(q:Int):=by simpa using h2
  rw [<-this];exact h1
 ·intro h;exact⟨_,h,by simp⟩
theorem xzgk:∀ (l:List Int) (E:List Bool),(∀ x∈l,0<=x/\x<(E.length:Int))->∀ a,(marksE E l).getD a false=(E.getD a false||hasI l a)
 |[],E,_,a=>by simp [marksE,hasI]
 |x::l,E,h,a=>by
  have hx:=h x (by simp);simp only [marksE];rw [xzgk l _ (fun y hy=>by rw [List.length_set];exact h y (by simp [hy])),xzbr]
  by_cases hp:x=(a:Int)
  ·have e1:(E.set x.toNat true).getD a false=true:=by
    rw [List.getD_eq_getElem?_getD,show x.toNat=a by omega,List.getElem?_set_self (by omega)];rfl
   rw [e1,show(x==(a:Int))=true by simp [hp]];simp
  ·have e1:(E.set x.toNat true).getD a false=E.getD a false:=by
    rw [List.getD_eq_getElem?_getD,List.getElem?_set_ne (by omega),<-List.getD_eq_getElem?_getD]
   rw [e1,show(x==(a:Int))=false by simp [hp],Bool.false_or]
theorem xzpj {n:Int}:∀ {c c':Int} {l:List Int},risesB n c l=true->(∀ x∈l,c'<x)->risesB n c' l=true
 |_,_,[],_,_=>rfl
 |c,c',x::l,h,hx=>by
  simp only [risesB,Bool.and_eq_true,decide_eq_true_eq]at h ⊢;exact⟨⟨hx x (by simp),h.1.2⟩,h.2⟩
theorem xzgl {n:Int}:∀ {c:Int} {l:List Int},risesB n c l=true->c<n->l.getLastD c<n
 |_,[],_,h=>h
 |c,x::l,h,_=>by
  simp only [risesB,Bool.and_eq_true,decide_eq_true_eq]at h;rw [List.getLastD_cons];exact xzgl h.2 h.1.2
structure BsS (x:Bs)(l:List Tree)(ps:List Prt):Prop where
 ok:x.S.Ok
 lr:x.R.length=x.S.sets.length
 le:x.E.length=x.S.sets.length
 pl:ps.length=l.length
 pt:∀ k (h:k<l.length) (h':k<ps.length),∃ lo hi,hi<=x.S.sets.length/\InP lo hi ps[k]/\Cl (grF x.S.sets x.S.follow) lo hi/\SaysT (grF x.S.sets x.S.follow) l[k] ps[k]/\∀ a,lo<=a->a<hi->x.R.getD a 0=(k:Int)
 fi:∀ a,hasI x.F a=ps.any fun p=>hasI p.first a
 en:∀ a,x.E.getD a false=ps.any fun p=>hasI p.ends a
 em:(x.em= -1/\∀ k (h:k<ps.length),ps[k].empty=false)\/ ∃ k,∃ h:k<ps.length,x.em=(k:Int)/\ps[k].empty=true/\∀ i (h:i<ps.length),i<k->ps[i].empty=false
 fr:risesB x.S.sets.length (-1) x.F=true
 rr:∀ r∈x.R,0<=r/\r<(l.length:Int)
theorem bs_add {x:Bs}{l:List Tree}{ps:List Prt}(h:BsS x l ps)(t:Tree)(hok:t.ok=true):BsS (x.add (l.length:Int) t) (l++[t]) (ps++[(partP t x.S).2]):=by
 obtain⟨a1,a2,a3,a4⟩:=xzek t hok x.S h.ok;obtain⟨o1,o2,o3⟩:=xzbj t x.S (xzcw t hok) h.ok
 have hle:x.S.sets.length<=(partP t x.S).1.sets.length:=by omega
 unfold Bs.add;generalize hX:partP t x.S=X at*;have hpl:=h.pl;have hlr:=h.lr;have hlE:=h.le;refine⟨o1,?_,?_,by simp [hpl],?_,?_,?_,?_,?_,?_⟩<;>dsimp only
 ·rw [List.length_append,List.length_replicate];omega
 ·rw [xzdh,List.length_append,List.length_replicate];omega
 ·intro k hk hk'
  rw [List.length_append,List.length_singleton]at hk hk'
  by_cases hkl:k<l.length
  ·obtain⟨lo,hi,g1,g2,g3,g4,g5⟩:=h.pt k hkl (by omega)
   have hag:=a1.sub (lo':=lo) (hi':=hi) (Nat.zero_le _) g1;refine⟨lo,hi,by omega,?_,g3.ag hag,?_,fun a h1 h2=>?_⟩
   ·rw [List.getElem_append_left (by omega)];exact g2
   ·rw [List.getElem_append_left hkl,List.getElem_append_left (by omega)];exact g4.ag g3 hag g2
   ·rw [xzes _ _ _ (by omega)];exact g5 a h1 h2
  ·obtain rfl:k=l.length:=by omega
   refine⟨_,_,Nat.le_refl _,?_,a3,?_,fun a h1 h2=>?_⟩
   ·rw [List.getElem_append_right (by omega)];simpa [hpl]using a2
   ·rw [List.getElem_append_right (by omega),List.getElem_append_right (by omega)];simpa [hpl]using a4
   ·rw [List.getD_eq_getElem?_getD,List.getElem?_append_right (by omega),List.getElem?_replicate,if_pos (by omega)];rfl
 ·intro a
  rw [xzfz,h.fi a,List.any_append];simp
 ·intro a
  rw [xzgk _ _ (fun y hy=>by
   have:=xzfe o2 y hy
   rw [List.length_append,List.length_replicate];omega),List.any_append,<-h.en a]
  congr 1
  ·rw [List.getD_eq_getElem?_getD,List.getD_eq_getElem?_getD]
   by_cases ha:a<x.E.length
   ·rw [List.getElem?_append_left ha]
   ·rw [List.getElem?_append_right (by omega),List.getElem?_eq_none (l:=x.E) (by omega),List.getElem?_replicate]
    split<;>rfl
  ·simp
 ·rcases h.em with⟨e1,e2⟩|⟨k,hk,e1,e2,e3⟩
  ·cases hp:X.2.empty with
   |true=>
    right
    refine⟨ps.length,by simp,?_,?_,fun i hi hik=>?_⟩
    ·rw [e1,hpl];rfl
    ·simp [hp]
    ·rw [List.getElem_append_left hik];exact e2 i hik
   |false=>
    left
    refine⟨by rw [e1];rfl,fun k hk=>?_⟩;rw [List.length_append,List.length_singleton]at hk
    by_cases hkl:k<ps.length
    ·rw [List.getElem_append_left hkl];exact e2 k hkl
    ·obtain rfl:k=ps.length:=by omega
     simp [hp]
  ·right
   refine⟨k,by simp;omega,?_,by rw [List.getElem_append_left hk];exact e2,fun i hi hik=>by rw [List.getElem_append_left (by omega)];exact e3 i (by omega) hik⟩
   have:(x.em== -1)=false:=by rw [e1];simp
   rw [this,Bool.and_false];exact e1
 ·refine xzeb (xzbh (by omega) (Int.le_refl _) h.fr) (xzpj o2.1 fun y hy=>?_)
  have h1:=xzgl h.fr (by omega);have h0:=xzjy o2 y hy;have h2:=a2.1 y.toNat (hasI_iff.2 (by rw [Int.toNat_of_nonneg h0.1];exact hy));omega
 ·intro r hr
  rw [List.length_append,List.length_singleton]
  rcases List.mem_append.1 hr with hr|hr
  ·have:=h.rr r hr;omega
  ·have:=List.eq_of_mem_replicate hr;omega
theorem xzsg (l:List Tree)(hok:∀ t∈l,t.ok=true):∃ ps,BsS (Bs.all Bs.none 0 l) l ps:=by
 have:∀ n,n<=l.length->∃ ps,BsS (Bs.all Bs.none 0 (l.take n)) (l.take n) ps:=by
  intro n
  induction n with
  |zero=>
   intro _;refine⟨[],⟨⟨rfl,fun r hr=>by cases hr⟩,rfl,rfl,rfl,fun k h=>by simp at h,fun a=>rfl,fun a=>rfl,.inl ⟨rfl,fun k h=>by simp at h⟩,rfl,fun r hr=>by cases hr⟩⟩
  |succ n ih=>
   intro hn;obtain⟨ps,h⟩:=ih (by omega);rw [List.take_succ_eq_append_getElem (by omega),Bs.all_snoc];have:=bs_add h l[n] (hok _ (List.getElem_mem _));rw [Int.zero_add];exact⟨_,this⟩
 have:=this l.length (Nat.le_refl _)
 rwa [List.take_length]at this
end
end Go.Proofs.Ythoaaginadjaoaa
