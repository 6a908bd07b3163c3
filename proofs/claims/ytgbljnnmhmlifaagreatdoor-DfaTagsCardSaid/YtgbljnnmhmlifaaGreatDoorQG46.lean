/-
 TREES LAID BY A LITERAL: rows of nodes in a new block; a node built; what a store into a zero variable leaves. No condition.
-/
import Derived.Test.YtgbljnnmhmlifaaGreatDoorQG11
import Derived.Test.YtgbljnnmhmlifaaGreatDoorQG12
import Derived.Test.YtgbljnnmhmlifaaGreatDoorQG27
import Derived.Test.YtgbljnnmhmlifaaGreatDoorQG06
import Derived.Test.YtgbljnnmhmlifaaGreatDoorQG02
import Derived.Test.YtgbljnnmhmlifaaGreatDoorQG33
import Derived.Test.YtgbljnnmhmlifaaGreatDoorQG40
import Derived.Test.YtgbljnnmhmlifaaGreatDoorQG37
import Derived.Test.YtgbljnnmhmlifaaGreatDoorQG29
namespace Go.Proofs.YtgbljnnmhmlifaaGreatDoor
section
open Go.RowKit
theorem yzhk (k:Int)(A:Option Addr)(n c:Nat)(lo hi:Int):reV k (fun _=>false) A n c lo hi=.agg #[.int .i64 k,.int .u64 0,.int .u64 0,.int .u64 0,.int .u64 0,.slice A n c,.int .i64 lo,.int .i64 hi]:=by
 unfold reV reL;simp only [wd_zero];rfl
def cellsOf:List (List Value)->List Value
 |[]=>[]
 |c::r=>c++cellsOf r
theorem yzei {W U:World}(hs:∀ p v,W.cell? p=some v->U.cell? p=some v){g:Nat}:∀ (ts:List Tree) (css:List (List Value)) (pre:Nat),ts.length=css.length->
 (∀ (i:Nat) (h:i<ts.length) (h':i<css.length),ts[i].At W (.agg css[i].toArray)/\css[i].length=8)->(∀ j v,(cellsOf css)[j]? =some v->U.cell? ⟨g,pre+j,none⟩=some v)->AllAt U ts g pre
 |[],_,_,_,_,_=>trivial
 |t::r,[],_,h,_,_=>by simp at h
 |t::r,c::css,pre,hl,h,hc=>by
  have h0:=h 0 (by simp) (by simp);refine⟨⟨c,?_,h0.2,fun j v hv=>?_⟩,?_⟩
  ·have h1:=h0.1
   exact Tree.At.sub hs _ h1
  ·refine hc j v ?_
   show(c++cellsOf css)[j]? =some v
   rw [List.getElem?_append_left (List.getElem?_eq_some_iff.1 hv).1];exact hv
  ·refine yzei hs r css (pre+8) (by simpa using hl) (fun i h1 h2=>?_) (fun j v hv=>?_)
   ·have:=h (i+1) (by simpa using h1) (by simpa using h2)
    simpa using this
   ·rw [Nat.add_assoc]
    refine hc (8+j) v ?_
    show(c++cellsOf css)[8+j]? =some v
    rw [List.getElem?_append_right (by have:c.length=8:=h0.2;omega),show 8+j - c.length=j by have:c.length=8:=h0.2;omega];exact hv
theorem yzdd {W:World}(t:TypeId)(ts:List Tree)(css:List (List Value))(hl:ts.length=css.length)(h:∀ (i:Nat) (h:i<ts.length) (h':i<css.length),ts[i].At W (.agg css[i].toArray)/\css[i].length=8):
 AllAt (W.alloc (.cells (cellsOf css).toArray t)) ts W.heap.size 0:=by
 have hb:Below W.heap.size W (W.alloc (.cells (cellsOf css).toArray t)):=(Below.refl _ _).alloc (Nat.le_refl _) _;refine yzei (W:=W) (fun p v hv=>by rw [hb.cell (World.block_lt_of_cell? W p hv)];exact hv) ts css 0 hl h (fun j v hv=>?_);have:=(BlkIs.new W t (cellsOf css).toArray).cell j;rw [Nat.zero_add,this]
 simpa using hv
theorem yzej {W:World}{k:Int}{m:Nat->Bool}:Tree.At W (.node k m [] 0 0) (reV k m none 0 0 0 0):=by
 unfold Tree.At;exact⟨none,0,rfl,⟨Nat.le_refl _,by decide⟩,fun h=>absurd rfl h⟩
mutual
def Tree.lit:Tree->Bool
 | .node k _ l _ _=>(k != 0)&&litL l
def litL:List Tree->Bool
 |[]=>true
 |t::r=>t.lit&&litL r
end
theorem yzde {W:World}{g j:Nat}{t:TypeId}(h:BlkIs W g t zeroL.toArray){k:Int}(hk:k≠0):W.cell? ⟨g,j,none⟩≠some (.int .i64 k):=by
 rw [h.cell j];intro e
 match j with
 |0=>simp [zeroL]at e;exact hk e.symm
 |1=>simp [zeroL]at e
 |2=>simp [zeroL]at e
 |3=>simp [zeroL]at e
 |4=>simp [zeroL]at e
 |5=>simp [zeroL]at e
 |6=>simp [zeroL]at e;exact hk e.symm
 |7=>simp [zeroL]at e;exact hk e.symm
 |j+8=>simp [zeroL]at e
mutual
theorem lit_far {W U:World}{g:Nat}{t:TypeId}(hz:BlkIs W g t zeroL.toArray)(hs:∀ p v,p.block≠g->W.cell? p=some v->U.cell? p=some v):∀ (T:Tree) {v:Value},T.lit=true->Tree.At W T v->Tree.At U T v
 | .node k m l lo hi,v,hl,h=>by
  simp only [Tree.lit,Bool.and_eq_true]at hl;unfold Tree.At at h ⊢;obtain⟨A,c,h1,h2,h3⟩:=h;refine⟨A,c,h1,h2,fun hne=>?_⟩;obtain⟨b,o,h4,h5⟩:=h3 hne;exact⟨b,o,h4,litL_far hz hs l hl.2 h5⟩
theorem litL_far {W U:World}{g:Nat}{t:TypeId}(hz:BlkIs W g t zeroL.toArray)(hs:∀ p v,p.block≠g->W.cell? p=some v->U.cell? p=some v):∀ (l:List Tree) {b o:Nat},litL l=true->AllAt W l b o->AllAt U l b o
 |[],b,o,_,_=>trivial
 | .node k m s lo hi::r,b,o,hl,h=>by
  simp only [litL,Bool.and_eq_true]at hl;obtain⟨⟨cs,h1,h2,h3⟩,h4⟩:=h;refine⟨⟨cs,lit_far hz hs _ hl.1 h1,h2,fun j v hv=>hs _ v ?_ (h3 j v hv)⟩,litL_far hz hs r hl.2 h4⟩;intro e;have e':b=g:=e;subst e'
  obtain⟨A,c,e1,_⟩:∃ A c,Value.agg cs.toArray=reV k m A s.length c lo hi/\_:=by
   unfold Tree.At at h1;obtain⟨A,c,h1,h1'⟩:=h1;exact⟨A,c,h1,h1'⟩
  have e2:cs=reL k m A s.length c lo hi:=by
   unfold reV at e1
   injection e1 with e1
   exact List.toArray_inj e1
  have h5:=h3 0 (.int .i64 k) (by rw [e2];rfl)
  have hk:k≠0:=by
   have:=hl.1;simp only [Tree.lit,Bool.and_eq_true]at this
   simpa using this.1
  exact yzde hz hk h5
end
end
section
open Go.RowKit
def ltr8 (b:Int):Tree:=.node 1 (sRange b b) [] 0 0
end
section
open Go.RowKit
theorem sizeS8 {W:World}{T:Tree}{k:Int}{m:Nat->Bool}{A:Option Addr}{n c:Nat}{lo hi:Int}(h:T.At W (reV k m A n c lo hi)):T.At W (.agg (reL k m A n c lo hi).toArray)/\(reL k m A n c lo hi).length=8:=⟨h,rfl⟩
theorem rows28 {W:World}{T1 T2:Tree}{k1 l1 h1 k2 l2 h2:Int}{m1 m2:Nat->Bool}{A1 A2:Option Addr}{n1 c1 n2 c2:Nat}(a1:T1.At W (reV k1 m1 A1 n1 c1 l1 h1))(a2:T2.At W (reV k2 m2 A2 n2 c2 l2 h2)):
 AllAt (W.alloc (.cells (reL k1 m1 A1 n1 c1 l1 h1++reL k2 m2 A2 n2 c2 l2 h2).toArray 49)) [T1,T2] W.heap.size 0:=by
 have:=yzdd (W:=W) 49 [T1,T2] [reL k1 m1 A1 n1 c1 l1 h1,reL k2 m2 A2 n2 c2 l2 h2] rfl (fun i h h'=>by
  match i,h,h' with
  |0,_,_=>exact sizeS8 a1
  |1,_,_=>exact sizeS8 a2)
 exact this
def InBox8 (w:World)(T:Tree)(g:Nat)(A:Option Addr)(n c:Nat)(u:World):Prop:=T.At u (reV T.kind T.set A n c T.lo T.hi)/\BlkIs u g 49 (reL T.kind T.set A n c T.lo T.hi).toArray/\Below w.heap.size w u
theorem InBox8.step {w u u':World}{T:Tree}{g:Nat}{A:Option Addr}{n c:Nat}(h:InBox8 w T g A n c u)(hb:Below u.heap.size u u'):InBox8 w T g A n c u':=⟨h.1.step hb,h.2.1.step hb,h.2.2.trans (hb.mono h.2.2.size)⟩
end
section
open Go.RowKit
attribute [local irreducible] FreeW textFrame
def lts (s:ByteArray)(k:Nat):List Value:=(List.range k).flatMap fun j=>reL 1 (sRange (b8 s j:Nat) (b8 s j:Nat)) none 0 0 0 0
theorem xzpq (s:ByteArray)(k:Nat):lts s (k+1)=lts s k++reL 1 (sRange (b8 s k:Nat) (b8 s k:Nat)) none 0 0 0 0:=by
 unfold lts;rw [List.range_succ,List.flatMap_append];simp
theorem xzsd (s:ByteArray):∀ k,(lts s k).length=k*8
 |0=>rfl
 |k+1=>by rw [xzpq,List.length_append,xzsd s k];simp [reL];omega
theorem xzyo (s:ByteArray):∀ (k i:Nat),i<k->∀ j x,(reL 1 (sRange (b8 s i:Nat) (b8 s i:Nat)) none 0 0 0 0)[j]? =some x->(lts s k)[i*8+j]? =some x
 |0,i,h,_,_,_=>absurd h (by omega)
 |k+1,i,h,j,x,hx=>by
  have hj:j<8:=by have:=(List.getElem?_eq_some_iff.1 hx).1;simpa [reL]using this
  rw [xzpq]
  by_cases e:i=k
  ·subst e
   rw [List.getElem?_append_right (by rw [xzsd];omega),xzsd,show i*8+j - i*8=j by omega];exact hx
  ·rw [List.getElem?_append_left (by rw [xzsd];omega)]
   exact xzyo s k i (by omega) j x hx
theorem xzyp (b:Int):∀ u∈reL 1 (sRange b b) none 0 0 0 0,u.oneCell'=true:=by
 intro u hu;simp only [reL,List.mem_cons,List.not_mem_nil,or_false]at hu
 rcases hu with rfl|rfl|rfl|rfl|rfl|rfl|rfl|rfl<;>rfl
theorem yzhl:(Tryz.prog.info? 49).map (fun i=>(i.zero,i.size,i.bytes))=some (some (.agg zeroL.toArray),8,80):=by kernel_rfl
theorem xzyq {W W':World}{b o:Nat}{cs:List Value}(h:W.rangeAt b o cs)(e:W'.heap[b]? =W.heap[b]?):W'.rangeAt b o cs:=fun j v hv=>(xzby e).trans (h j v hv)
theorem yzdf (b:Int)(W:World):(Instr.buildSlice 22 1 #[(0,reV 1 (sRange b b) none 0 0 0 0)]).run Tryz.prog W=.ok (.slice (some ⟨W.heap.size,0,none⟩) 1 1) (W.alloc (.cells (reL 1 (sRange b b) none 0 0 0 0).toArray 49)):=by
 kernel_rfl
theorem xzyr {W:World}{B:Nat}{v:Value}{s:ByteArray}{k b:Nat}(hown:W.ownsRow B 49 8 v k (lts s k))(hnew:W.rangeAt b 0 (reL 1 (sRange (b8 s k:Nat) (b8 s k:Nat)) none 0 0 0 0))(hk:k+1<=1048577)(hB:B<=W.heap.size):
 ∃ v' W',(Builtin.append_ #[22,22] 22 #[v,.slice (some ⟨b,0,none⟩) 1 1]).run Tryz.prog W=.ok v' W'/\W'.ownsRow B 49 8 v' (k+1) (lts s (k+1))/\W.grownBy W' v.ownBlock/\W'.ownsRow B 49 8 v k (lts s k)/\(v'.ownBlock=v.ownBlock\/v'.ownBlock=some W.heap.size):=by
 obtain⟨i0,hi0,hz0,hz1,hz2⟩:=info_parts yzhl
 have hnews:∀ j u,(reL 1 (sRange (b8 s k:Nat) (b8 s k:Nat)) none 0 0 0 0)[j]? =some u->W.cell? ((⟨b,0,none⟩:Addr).add j)=some u:=fun j u hu=>by
  rw [Addr.add_lit];exact hnew j u hu
 obtain⟨v',W',hr,h1,h2,_,h4⟩:=run_append_own_at (P:=Tryz.prog) (w:=W) B 22 22 49 i0 _ 8 80 Tryz.underlying22 hi0 hz0 hz1 hz2 rfl (by decide) v k _ hown
  ⟨b,0,none⟩ 1 1 (reL 1 (sRange (b8 s k:Nat) (b8 s k:Nat)) none 0 0 0 0) rfl hnews (xzyp _) (by unfold maxLen;omega) (by omega) hB
 refine⟨v',W',hr,?_,h2,xzcu (P:=Tryz.prog) Tryz.underlying22 hi0 hz0 hz1 hz2 hown rfl hnews (xzyp _) (by unfold maxLen;omega) (by omega) hr,h4⟩;rw [xzpq];exact h1
def catC (v:Value):Array Value:=#[.int .i64 2,.int .u64 0,.int .u64 0,.int .u64 0,.int .u64 0,v,.int .i64 0,.int .i64 0]
theorem xzes (v:Value):(catC v)[5]? =some v:=rfl
theorem yzhm (v v':Value):(catC v).setIfInBounds 5 v'=catC v':=rfl
def lettersT (s:ByteArray):Tree:=if s.size=1 then ltr8 (b8 s 0:Nat)else .node 2 (fun _=>false) ((List.range s.size).map fun j=>ltr8 (b8 s j:Nat)) 0 0
theorem yzhn {W:World}{B:Nat}{v:Value}{s:ByteArray}{k:Nat}(h:W.ownsRow B 49 8 v k (lts s k)):∃ A c,v=.slice A k c/\(k<=c/\c<=9223372036854775807)/\(0<k->∃ b,A=some ⟨b,0,none⟩/\B<=b/\AllAt W ((List.range k).map fun j=>ltr8 (b8 s j:Nat)) b 0):=by
 have hlt:=h.lt
 rcases h.2 with⟨rfl,rfl⟩|⟨g,cap,cur,rfl,h1,h2,h3,h4,_⟩
 ·exact⟨none,0,rfl,⟨by omega,by omega⟩,fun h=>absurd h (by omega)⟩
 ·refine⟨_,cap,rfl,⟨h3,by unfold maxLen at h4;omega⟩,fun _=>⟨g,rfl,h1,AllAt.mk _ _ _ fun i hi=>?_⟩⟩
  have hi':i<k:=by simpa using hi
  refine⟨reL 1 (sRange (b8 s i:Nat) (b8 s i:Nat)) none 0 0 0 0,?_,rfl,fun j x hx=>?_⟩
  ·rw [List.getElem_map,List.getElem_range]
   exact yzej
  ·have:=World.ownsRow.cells (g:=g) h rfl (i*8+j) x (xzyo s k i hi' j x hx)
   rw [Addr.add_lit]at this;rw [show 0+i*8+j=0+(i*8+j)by omega];exact this
set_option maxRecDepth 20000 in
set_option maxHeartbeats 16000000 in
theorem xzkl (s:ByteArray)(hs:s.size<=1048576)(w:World):Calls Tryz.prog 14 #[.string s] w fun e w'=>∃ v,e=.returned v/\(lettersT s).At w' v/\Below w.heap.size w w':=by
 obtain⟨W1,hW1⟩:∃ W1,w.alloc (.cells zeroL.toArray 49)=W1:=⟨_,rfl⟩;obtain⟨W2,hW2⟩:∃ W2,W1.alloc (.cells (catC (.slice none 0 0)) 49)=W2:=⟨_,rfl⟩
 have hs1:W1.heap.size=w.heap.size+1:=by rw [<-hW1];simp
 have hs2:W2.heap.size=w.heap.size+2:=by rw [<-hW2];simp [hs1]
 have hb1:Below w.heap.size w W1:=by rw [<-hW1];exact(Below.refl _ _).alloc (Nat.le_refl _) _
 have hb2:Below w.heap.size w W2:=by rw [<-hW2];exact hb1.alloc (by omega) _
 have hx1:BlkIs W1 w.heap.size 49 zeroL.toArray:=by rw [<-hW1];exact BlkIs.new _ _ _
 have hx2:BlkIs W2 w.heap.size 49 zeroL.toArray:=by rw [<-hW2];exact hx1.alloc _
 have hc2:BlkIs W2 (w.heap.size+1) 49 (catC (.slice none 0 0)):=by rw [<-hW2,<-hs1];exact BlkIs.new _ _ _
 have HH0:=zd (show BlkIs W2 (w.heap.size+1) 49 (catC (.slice none 0 0))/\W2.ownsRow (w.heap.size+2) 49 8 (.slice none 0 0) 0 (lts s 0)/\Below w.heap.size w W2/\BlkIs W2 w.heap.size 49 zeroL.toArray from⟨hc2,World.ownsRow_nil _ _ _ _,hb2,hx2⟩);have HS2:=zd hs2
 have HIX:=zd (show ∀ (j:Nat),j<s.size->∀ u:World,(Instr.index 9 (.string s) (.int .i64 (j:Nat))).run Tryz.prog u=.ok (.int .u8 (b8 s j:Nat)) u from fun j hj u=>by
  have:=xzku 9 Tryz.underlying9 s j hj u (P:=Tryz.prog)
  rw [this];unfold b8;rw [dif_pos hj])
 clear hb1 hb2 hx1 hx2 hc2;unfold zeroL at hW1;unfold catC at hW2;have HW2:=zd hW2;clear hW2
 go_enter Tryz.func14,Tryz.ntmps14
 go_wp2;rw [HW2.out]
 go_loopw [4] (fun i wr=>∃ k:Nat,i=.int .i64 k/\k<=s.size/\Hid (w.heap.size+2<=wr.heap.size/\∃ v,BlkIs wr (w.heap.size+1) 49 (catC v)/\wr.ownsRow (w.heap.size+2) 49 8 v k (lts s k)/\Below w.heap.size w wr/\BlkIs wr w.heap.size 49 zeroL.toArray)) (fun i _=>s.size - (intOf i).toNat)
 case atStart=>exact⟨0,rfl,Nat.zero_le _,zd ⟨by rw [HS2.out];omega,_,HH0.out⟩⟩
 case round=>
  obtain⟨k,rfl,hk,HH⟩:=hrel;obtain⟨w2,rfl⟩:∃ w2,w2=wr:=⟨_,rfl⟩;obtain⟨hws,v,hh⟩:=HH.out;have HWS:=zd hws;have HH:=zd hh;clear hh hws HH0 HS2
  by_cases hp:k<s.size
  ·have hk1:IntKind.i64.wrap ((k:Int)+1)=((k+1:Nat):Int):=by rw [IntKind.wrap_i64];omega
   have hdl:decide ((k:Int)<(s.size:Int))=true:=by simp;omega
   have HSZ:=zd (show k+1<=1048577 by omega);have HWB:=zd (show IntKind.i64.wrap ((b8 s k:Nat):Int)=((b8 s k:Nat):Int)by have:=yzfh s k;rw [IntKind.wrap_i64];omega);have HRG:=zd (fun(u:World)=>xznz (b8 s k) (b8 s k) (yzfh s k) u);have HOW:=zd (show ∀ k,v.ownBlock=some k->k<w2.heap.size from fun k hk=>(World.ownsRow.lt HH.out.2.1 k hk).2)
   go_wp2_with fail
   refine xzag 14 36 (fun u=>Hid (Tn v.ownBlock w2 u/\Below w.heap.size w u/\u.ownsRow (w.heap.size+2) 49 8 v k (lts s k)/\BlkIs u (w.heap.size+1) 49 (catC v)/\BlkIs u w.heap.size 49 zeroL.toArray)) (fun i u u'=>(i=13->u.grownBy u' v.ownBlock/\u'.ownsRow (w.heap.size+2) 49 8 v k (lts s k))/\(i≠13->Below u.heap.size u u'))
    (fun i v' u=>match i with
     |0=>v'=.pointer (some ⟨w.heap.size+1,5,none⟩)
     |1=>v'=v
     |2=>v'=.string s
     |3=>v'=.int .i64 (k:Nat)
     |4=>v'=.int .u8 (b8 s k:Nat)
     |5=>v'=.int .i64 (b8 s k:Nat)
     |6=>v'=.string s
     |7=>v'=.int .i64 (k:Nat)
     |8=>v'=.int .u8 (b8 s k:Nat)
     |9=>v'=.int .i64 (b8 s k:Nat)
     |10=>v'=setV (sRange (b8 s k:Nat) (b8 s k:Nat))
     |11=>v'=reV 1 (sRange (b8 s k:Nat) (b8 s k:Nat)) none 0 0 0 0
     |12=>∃ b,v'=.slice (some ⟨b,0,none⟩) 1 1/\u.rangeAt b 0 (reL 1 (sRange (b8 s k:Nat) (b8 s k:Nat)) none 0 0 0 0)/\w2.heap.size<=b
     |13=>u.ownsRow (w.heap.size+2) 49 8 v' (k+1) (lts s (k+1))/\(v'.ownBlock=v.ownBlock\/ ∃ b,v'.ownBlock=some b/\w2.heap.size<=b)
     |_=>True) (by kernel_rfl) (by kernel_rfl) rfl (zd ⟨Tn.below (Below.refl _ _).drew,HH.out.2.2.1.drew,xzaz HH.out.2.1 (fun _ _=>rfl),HH.out.1,HH.out.2.2.2⟩) ?_ ?_ ?_ ?_
   ·intro i u u' hix hC hr
    by_cases hi8:i=13
    ·obtain⟨g1,g2⟩:=hr.1 hi8
     have n1:∀ k,v.ownBlock=some k->w.heap.size+2<=k:=fun k hk=>(World.ownsRow.lt hC.out.2.2.1 k hk).1
     exact zd ⟨hC.out.1.trans (Tn.grown g1),(Tn.grown g1).2.2 _ _ (by have:=hC.out.1.1;have:=HWS.out;omega) (fun k hk=>by have:=n1 k hk;omega) hC.out.2.1,g2,((Tn.grown g1).2.1 _ (by have:=hC.out.1.1;have:=HWS.out;omega) (fun e=>by have:=n1 _ e;omega)).trans hC.out.2.2.2.1,((Tn.grown g1).2.1 _ (by have:=hC.out.1.1;have:=HWS.out;omega) (fun e=>by have:=n1 _ e;omega)).trans hC.out.2.2.2.2⟩
    ·have hb:=hr.2 hi8
     exact zd ⟨hC.out.1.trans (Tn.below hb),hC.out.2.1.trans (hb.mono (by have:=hC.out.1.1;have:=HWS.out;omega)),xzaz hC.out.2.2.1 (fun k hk=>hb.block k (World.ownsRow.lt hC.out.2.2.1 k hk).2),hC.out.2.2.2.1.step hb,hC.out.2.2.2.2.step hb⟩
   ·intro i j v u u' hix hj hne hv hr
    match i,hix,hne,hv with
    |0,_,_,hv=>exact hv
    |1,_,_,hv=>exact hv
    |2,_,_,hv=>exact hv
    |3,_,_,hv=>exact hv
    |4,_,_,hv=>exact hv
    |5,_,_,hv=>exact hv
    |6,_,_,hv=>exact hv
    |7,_,_,hv=>exact hv
    |8,_,_,hv=>exact hv
    |9,_,_,hv=>exact hv
    |10,_,_,hv=>exact hv
    |11,_,_,hv=>exact hv
    |12,_,hne,hv=>
     obtain⟨b,e1,e2,e3⟩:=hv;refine⟨b,e1,?_,e3⟩
     by_cases hj8:j=13
     ·exact xzyq e2 ((hr.1 hj8).1.block b (World.block_lt_of_cell? u ⟨b,0+0,none⟩ (e2 0 _ rfl)) (fun e=>by have:=HOW.out b e.symm;omega))
     ·exact xzbr e2 (by simp [reL]) (hr.2 hj8)
    |13,_,hne,hv=>
     exact⟨xzaz hv.1 fun k hk=>(hr.2 (Ne.symm hne)).block k (World.ownsRow.lt hv.1 k hk).2,hv.2⟩
    |i+14,hix,_,_=>omega
   ·intro i hix vs u hC hw oq ho
    match i,hix,hw,ho with
    |0,_,hw,ho=>
     simp only [zq,zh]at ho;subst ho;refine⟨rfl,?_⟩;have k5:=(hC.out.2.2.2.1.cell 5).trans (xzes v);clear hw;simp only [xzaa,tmpsTo];go_simp;exact xzab (Below.refl _ _) rfl
    |1,_,hw,ho=>
     have e0:vs 0=.pointer (some ⟨w.heap.size+1,5,none⟩):=hw 0 (by omega) (by kernel_rfl);simp only [zq,zh]at ho;subst ho;refine⟨rfl,?_⟩;have k5:=(hC.out.2.2.2.1.cell 5).trans (xzes v);clear hw;simp only [xzaa,tmpsTo,putT,zr];rw [e0];clear e0;go_simp;exact xzab (Below.refl _ _) rfl
    |2,_,hw,ho=>
     simp only [zq,zh]at ho;subst ho;refine⟨rfl,?_⟩;have k5:=(hC.out.2.2.2.1.cell 5).trans (xzes v);clear hw;simp only [xzaa,tmpsTo,putT,zr];go_simp;exact xzab (Below.refl _ _) rfl
    |3,_,hw,ho=>
     simp only [zq,zh]at ho;subst ho;refine⟨rfl,?_⟩;have k5:=(hC.out.2.2.2.1.cell 5).trans (xzes v);clear hw;simp only [xzaa,tmpsTo,putT,zr];go_simp;exact xzab (Below.refl _ _) rfl
    |4,_,hw,ho=>
     have e2:vs 2=.string s:=hw 2 (by omega) (by kernel_rfl);have e3:vs 3=.int .i64 (k:Nat):=hw 3 (by omega) (by kernel_rfl);simp only [zq,zh]at ho;subst ho;refine⟨rfl,?_⟩;have k5:=(hC.out.2.2.2.1.cell 5).trans (xzes v);clear hw;simp only [xzaa,tmpsTo,putT,zr];rw [e2,e3];clear e2 e3;have hix:=HIX.out k hp u;go_simp;exact xzab (Below.refl _ _) rfl
    |5,_,hw,ho=>
     have e4:vs 4=.int .u8 (b8 s k:Nat):=hw 4 (by omega) (by kernel_rfl);simp only [zq,zh]at ho;subst ho;refine⟨rfl,?_⟩;have k5:=(hC.out.2.2.2.1.cell 5).trans (xzes v);clear hw;simp only [xzaa,tmpsTo,putT,zr];rw [e4];clear e4;have hwb:=HWB.out;go_simp;exact xzab (Below.refl _ _) rfl
    |6,_,hw,ho=>
     simp only [zq,zh]at ho;subst ho;refine⟨rfl,?_⟩;have k5:=(hC.out.2.2.2.1.cell 5).trans (xzes v);clear hw;simp only [xzaa,tmpsTo,putT,zr];go_simp;exact xzab (Below.refl _ _) rfl
    |7,_,hw,ho=>
     simp only [zq,zh]at ho;subst ho;refine⟨rfl,?_⟩;have k5:=(hC.out.2.2.2.1.cell 5).trans (xzes v);clear hw;simp only [xzaa,tmpsTo,putT,zr];go_simp;exact xzab (Below.refl _ _) rfl
    |8,_,hw,ho=>
     have e6:vs 6=.string s:=hw 6 (by omega) (by kernel_rfl);have e7:vs 7=.int .i64 (k:Nat):=hw 7 (by omega) (by kernel_rfl);simp only [zq,zh]at ho;subst ho;refine⟨rfl,?_⟩;have k5:=(hC.out.2.2.2.1.cell 5).trans (xzes v);clear hw;simp only [xzaa,tmpsTo,putT,zr];rw [e6,e7];clear e6 e7;have hix:=HIX.out k hp u;go_simp;exact xzab (Below.refl _ _) rfl
    |9,_,hw,ho=>
     have e8:vs 8=.int .u8 (b8 s k:Nat):=hw 8 (by omega) (by kernel_rfl);simp only [zq,zh]at ho;subst ho;refine⟨rfl,?_⟩;have k5:=(hC.out.2.2.2.1.cell 5).trans (xzes v);clear hw;simp only [xzaa,tmpsTo,putT,zr];rw [e8];clear e8;have hwb:=HWB.out;go_simp;exact xzab (Below.refl _ _) rfl
    |10,_,hw,ho=>
     have e5:vs 5=.int .i64 (b8 s k:Nat):=hw 5 (by omega) (by kernel_rfl);have e9:vs 9=.int .i64 (b8 s k:Nat):=hw 9 (by omega) (by kernel_rfl);simp only [zq,zh]at ho;subst ho;refine⟨rfl,?_⟩;have k5:=(hC.out.2.2.2.1.cell 5).trans (xzes v);clear hw;simp only [xzaa,tmpsTo,putT,zr];rw [e5,e9];clear e5 e9;go_simp;refine xzbd ((HRG.out u).mono ?_);rintro e u' ⟨rfl,hbu⟩;exact⟨_,rfl,hbu,rfl⟩
    |11,_,hw,ho=>
     have e10:vs 10=setV (sRange (b8 s k:Nat) (b8 s k:Nat)):=hw 10 (by omega) (by kernel_rfl);simp only [zq,zh]at ho;subst ho;refine⟨rfl,?_⟩;have k5:=(hC.out.2.2.2.1.cell 5).trans (xzes v);clear hw;simp only [xzaa,tmpsTo,putT,zr];rw [e10];clear e10;unfold setV reV reL;go_simp;exact xzab (Below.refl _ _) rfl
    |12,_,hw,ho=>
     have e11:vs 11=reV 1 (sRange (b8 s k:Nat) (b8 s k:Nat)) none 0 0 0 0:=hw 11 (by omega) (by kernel_rfl);simp only [zq,zh]at ho;subst ho;refine⟨rfl,?_⟩;have k5:=(hC.out.2.2.2.1.cell 5).trans (xzes v);clear hw;simp only [xzaa,tmpsTo,putT,zr];rw [e11];clear e11;rw [xzer (x:=reV 1 (sRange (b8 s k:Nat) (b8 s k:Nat)) none 0 0 0 0) 22 (.tmp 23) rfl rfl (yzdf _ u)];exact xzab ⟨fun h=>absurd h (by decide),fun _=>(Below.refl _ _).alloc (Nat.le_refl _) _⟩ ⟨_,rfl,(BlkIs.new u 49 (reL 1 (sRange (b8 s k:Nat) (b8 s k:Nat)) none 0 0 0 0).toArray).range,hC.out.1.1⟩
    |13,_,hw,ho=>
     have e1:vs 1=v:=hw 1 (by omega) (by kernel_rfl);obtain⟨b,e12,hb1,hb2⟩:∃ b,vs 12=.slice (some ⟨b,0,none⟩) 1 1/\u.rangeAt b 0 (reL 1 (sRange (b8 s k:Nat) (b8 s k:Nat)) none 0 0 0 0)/\w2.heap.size<=b:=hw 12 (by omega) (by kernel_rfl);simp only [zq,zh]at ho;subst ho;refine⟨rfl,?_⟩;have k5:=(hC.out.2.2.2.1.cell 5).trans (xzes v);clear hw;simp only [xzaa,tmpsTo,putT,zr];rw [e1];clear e1;rw [e12];obtain⟨v',W',hrun,k1,k2,k3,k4⟩:=xzyr hC.out.2.2.1 hb1 (by have:=HSZ.out;omega) (by have:=hC.out.1.1;have:=HWS.out;omega);rw [xzce (.tmp 13) (.tmp 24) 22 22 rfl rfl rfl hrun];refine xzab ?_ ?_
     ·exact⟨fun _=>⟨k2,k3⟩,fun h=>absurd rfl h⟩
     ·refine⟨k1,?_⟩
      rcases k4 with k4|k4
      ·exact .inl k4
      ·exact .inr ⟨_,k4,hC.out.1.1⟩
    |i+14,hix,_,_=>omega
   intro vs1 u hC hV;have h13:u.ownsRow (w.heap.size+2) 49 8 (vs1 13) (k+1) (lts s (k+1))/\((vs1 13).ownBlock=v.ownBlock\/ ∃ b,(vs1 13).ownBlock=some b/\w2.heap.size<=b):=hV 13 (by omega);clear hV;simp only [xzaa,tmpsTo,putT,zr,List.drop_succ_cons,List.drop_zero];generalize vs1 13=v9 at*;generalize vs1 0=q0;generalize vs1 1=q1;generalize vs1 2=q2;generalize vs1 3=q3;generalize vs1 4=q4;generalize vs1 5=q5;generalize vs1 6=q6;generalize vs1 7=q7;generalize vs1 8=q8;generalize vs1 9=q9;generalize vs1 10=q10;generalize vs1 11=q11;generalize vs1 12=q12;obtain⟨A9,c9,rfl,hc9,_⟩:=yzhn h13.1;have c5:=(hC.out.2.2.2.1.cell 5).trans (xzes v);have fz:=BlkIs.frozen hC.out.2.2.2.1 5;have hbk:=hC.out.2.2.2.1.put 5 (.slice A9 (k+1) c9);rw [yzhm]at hbk
   have HN:=zd (show w.heap.size+2<=(u.setCell ⟨w.heap.size+1,5,none⟩ (.slice A9 (k+1) c9)).heap.size/\BlkIs (u.setCell ⟨w.heap.size+1,5,none⟩ (.slice A9 (k+1) c9)) (w.heap.size+1) 49 (catC (.slice A9 (k+1) c9))/\(u.setCell ⟨w.heap.size+1,5,none⟩ (.slice A9 (k+1) c9)).ownsRow (w.heap.size+2) 49 8 (.slice A9 (k+1) c9) (k+1) (lts s (k+1))/\Below w.heap.size w (u.setCell ⟨w.heap.size+1,5,none⟩ (.slice A9 (k+1) c9))/\BlkIs (u.setCell ⟨w.heap.size+1,5,none⟩ (.slice A9 (k+1) c9)) w.heap.size 49 zeroL.toArray from
    ⟨by rw [World.size_setCell];have:=hC.out.1.1;have:=HWS.out;omega,hbk,xzaz h13.1 fun k hk=>Below.heap_setCell u ⟨w.heap.size+1,5,none⟩ _ k (fun e=>by have:=(World.ownsRow.lt h13.1 k hk).1;rw [show k=w.heap.size+1 from e]at this;omega),hC.out.2.1.setCell (p:=⟨w.heap.size+1,5,none⟩) (by show w.heap.size<=w.heap.size+1;omega) _,(Below.heap_setCell u ⟨w.heap.size+1,5,none⟩ _ _ (by show w.heap.size≠w.heap.size+1;omega)).trans hC.out.2.2.2.2⟩)
   clear hbk h13 hC HH HOW;go_wp2;exact⟨⟨k+1,rfl,hp,zd ⟨HN.out.1,_,HN.out.2⟩⟩,by simp [intOf];omega⟩
  ·have hdl:decide ((k:Int)<(s.size:Int))=false:=by simp;omega
   obtain rfl:k=s.size:=by omega
   obtain⟨hbk,hown,hbe,hz⟩:=HH.out;obtain⟨A,c,rfl,hc,hat⟩:=yzhn hown;have k5:=(hbk.cell 5).trans (xzes _)
   by_cases h1:s.size=1
   ·obtain⟨b,rfl,hbB,hall⟩:=hat (by omega)
    have e1:decide ((s.size:Int)=1)=true:=by simp;omega
    have e1':((s.size:Int)==1)=true:=by simp;omega
    have e2:decide ((0:Int)<(s.size:Int))=true:=by simp;omega
    have e3:(0:Int)<(s.size:Int):=by omega
    have e4:0<s.size:=by omega
    have hrg:w2.rangeAt b 0 (reL 1 (sRange (b8 s 0:Nat) (b8 s 0:Nat)) none 0 0 0 0):=fun j x hx=>by
     have:=World.ownsRow.cells (g:=b) hown rfl (0*8+j) x (xzyo s s.size 0 (by omega) j x hx);rw [Addr.add_lit,Nat.zero_mul,Nat.zero_add]at this;exact this
    obtain⟨d8,hd8⟩:∃ d8,(reL 1 (sRange (b8 s 0:Nat) (b8 s 0:Nat)) none 0 0 0 0).toArray=d8:=⟨_,rfl⟩
    have hld:∀ {ops:Array Oper} {rest:List Oper} {op:Oper} {a:Act} {Q:Exit->Act->World->Prop} (_:op.guard=none) (x:Operand) (_:op.op=.load 49 x) (_:a.eval x=.pointer (some ⟨b,0,none⟩)) (_:wpList Tryz.prog ops Q rest (a.put op.dst (.agg d8)) w2),wpList Tryz.prog ops Q (op::rest) a w2:=fun hg x ho hx hK=>wpList_load_mid hg 49 x ho b 0 hx _ _ hrg Tryz.underlying49 rfl xzkv (by rw [hd8];exact hK)
    obtain⟨W9,hsc,hb9,hw9⟩:=xzbz (P:=Tryz.prog) hz (new:=d8) (by rw [<-hd8];rfl) (by rw [<-hd8];exact reL_all)
    have hs8:d8.size=8:=by rw [<-hd8];rfl
    have hl9:(loadVar 49 ⟨w.heap.size,0,none⟩).run Tryz.prog W9=.ok (.agg d8) W9:=by
     rw [<-hd8]at hb9;rw [<-hd8];exact load_re hb9
    have HB9:=zd (hw9.2.1 _ _ (Nat.le_refl _) hbe);have HT:=zd (show lettersT s=ltr8 (b8 s 0:Nat)by unfold lettersT;rw [if_pos h1]);clear hbk hown hbe hz hat hall hrg h1 HH hb9 hw9
    go_wp2_with(refine hld rfl _ rfl rfl ?_)
    refine⟨rfl,_,xzae rfl rfl hl9,_,rfl,?_,HB9.out⟩;rw [HT.out,<-hd8];exact yzej
   ·have e1:decide ((s.size:Int)=1)=false:=by simp;omega
    have e1':((s.size:Int)==1)=false:=by simp;omega
    obtain⟨d8,hd8⟩:∃ d8,catC (.slice A s.size c)=d8:=⟨_,rfl⟩
    have hld:∀ {ops:Array Oper} {rest:List Oper} {op:Oper} {a:Act} {Q:Exit->Act->World->Prop} (_:op.guard=none) (x:Operand) (_:op.op=.load 49 x) (_:a.eval x=.pointer (some ⟨w.heap.size+1,0,none⟩)) (_:wpList Tryz.prog ops Q rest (a.put op.dst (.agg d8)) w2),wpList Tryz.prog ops Q (op::rest) a w2:=fun hg x ho hx hK=>wpList_load_mid hg 49 x ho (w.heap.size+1) 0 hx _ _ hbk.range Tryz.underlying49 rfl xzkv (by rw [Array.toArray_toList,hd8];exact hK)
    obtain⟨W9,hsc,hb9,hw9⟩:=xzbz (P:=Tryz.prog) hz (new:=d8) (by rw [<-hd8];rfl) (by rw [<-hd8];simp [catC,Value.oneCell'])
    have hs8:d8.size=8:=by rw [<-hd8];rfl
    have hl9:(loadVar 49 ⟨w.heap.size,0,none⟩).run Tryz.prog W9=.ok (.agg d8) W9:=by
     have:=run_loadVar_mid (P:=Tryz.prog) W9 w.heap.size 0 49 d8.toList _ hb9.range Tryz.underlying49 rfl (by rw [xzkv,Array.length_toList,hs8])
     rwa [Array.toArray_toList]at this
    have HB9:=zd (hw9.2.1 _ _ (Nat.le_refl _) hbe)
    have h9own:W9.ownsRow (w.heap.size+2) 49 8 (.slice A s.size c) s.size (lts s s.size):=xzaz hown fun k hk=>hw9.1 k (by have:=(World.ownsRow.lt hown k hk).1;omega)
    have HT:=zd (show(lettersT s).At W9 (.agg d8)by
     unfold lettersT;rw [if_neg h1,<-hd8];obtain⟨A',c',e,hc',hat'⟩:=yzhn h9own
     injection e with eA _ ec
     subst eA;subst ec;unfold Tree.At;refine⟨A,c,?_,by simpa using hc',fun hne=>?_⟩
     ·have:=yzhk 2 A ((List.range s.size).map fun j=>ltr8 (b8 s j:Nat)).length c 0 0
      rw [this];unfold catC;simp
     ·obtain⟨b,e,_,hall⟩:=hat' (by
       rcases Nat.eq_zero_or_pos s.size with h0|h0
       ·rw [h0]at hne;exact absurd rfl hne
       ·exact h0)
      exact⟨b,0,e,hall⟩)
    clear hbk hown hbe hz hat h1 HH hb9 hw9 h9own
    go_wp2_with(refine hld rfl _ rfl rfl ?_)
    exact⟨rfl,_,xzae rfl rfl hl9,_,rfl,HT.out,HB9.out⟩
end
section
open Go.RowKit
theorem xzse {T:Tree}(h:T.mayN=true):T.ok=true:=by
 unfold Tree.mayN at h;simp only [Bool.and_eq_true]at h;exact h.2.2
end
section
open Go.RowKit
def la9:Tree:=ltr8 97
def lab9:Tree:=.node 2 (fun _=>false) [ltr8 97,ltr8 98] 0 0
theorem la9_is:lettersT ⟨#[97]⟩=la9:=rfl
theorem lab9_is:lettersT ⟨#[97,98]⟩=lab9:=rfl
theorem e9_may:la9.mayN=true/\lab9.mayN=true:=by decide+kernel
theorem e9_nodes:la9.nodes=1/\lab9.nodes=3:=by decide+kernel
theorem e9_sumN:sumN [la9,lab9]=3:=by decide+kernel
theorem e9_sumP:sumP [la9]=1/\sumP [la9,lab9]=3:=by decide+kernel
theorem xzpr:∀ t∈[la9,lab9],t.mayN=true/\PartIs t/\t.nodes<=1048576:=by
 intro t ht;simp only [List.mem_cons,List.not_mem_nil,or_false]at ht
 rcases ht with rfl|rfl
 ·exact⟨e9_may.1,xzkz la9 (xzse e9_may.1) (by rw [e9_nodes.1];decide),by rw [e9_nodes.1];decide⟩
 ·exact⟨e9_may.2,xzkz lab9 (xzse e9_may.2) (by rw [e9_nodes.2];decide),by rw [e9_nodes.2];decide⟩
theorem e9_okTs:okTs [la9,lab9]:=by
 unfold okTs;refine⟨xzmn la9 (xzse e9_may.1),?_⟩;unfold okTs;refine⟨xzmn lab9 (xzse e9_may.2),?_⟩;unfold okTs
 trivial
theorem e9_sums:∀ j,0<=sumP ([la9,lab9].take j)/\sumP ([la9,lab9].take j)<=2000
 |0=>by simp [sumP]
 |1=>by
  show 0<=sumP [la9]/\sumP [la9]<=2000
  rw [e9_sumP.1];decide
 |j+2=>by
  show 0<=sumP (la9::lab9::[].take j)/\sumP (la9::lab9::[].take j)<=2000
  rw [List.take_nil,e9_sumP.2];decide
def N9:Nf:=buildN [la9,lab9]
theorem xzuc (A:Option Addr)(c:Nat)(w:World)(hat:∃ b o,A=some ⟨b,o,none⟩/\AllAt w [la9,lab9] b o):
 Calls Tryz.prog 7 #[.slice A 2 c] w fun x w'=>∃ v,x=.returned (.tuple #[v,.int .i64 0])/\NfaAt w' N9 v/\Below w.heap.size w w':=
 xzqw [la9,lab9] (by decide) (by decide) (fun t ht=>(xzpr t ht).1) (fun t ht=>(xzpr t ht).2.1) e9_okTs (fun t ht=>(xzpr t ht).2.2) (by rw [e9_sumN];decide) e9_sums A c w (fun _=>hat)
theorem N9_small:N9.sets.length=3/\N9.may=true:=by decide+kernel
theorem N9_of:∀ b,b<256->ofN N9 b=if b=97 then 1 else if b=98 then 2 else 0:=by decide+kernel
theorem N9_cl:clN N9=3:=by decide+kernel
def lb9 (k:Nat):Nat:=if k=0 then 0 else if k=1 then 97 else 98
set_option maxRecDepth 20000 in
theorem N9_lb:∀ k,k<3->lbN N9 k=lb9 k:=fun k hk=>by
 obtain⟨_,h1,h2,h3⟩:=yzhg N9 (k:=k) (by rw [N9_cl];exact hk);rw [N9_of _ h1]at h2;unfold lb9
 have hl:∀ a,a<lbN N9 k->(if a=97 then 1 else if a=98 then 2 else 0)≠k:=fun a ha=>by
  have:=h3 a ha
  rwa [N9_of a (by omega)]at this
 obtain rfl|rfl|rfl:k=0\/k=1\/k=2:=by omega
 ·simp only [if_true]
  rcases Nat.eq_zero_or_pos (lbN N9 0)with e|e
  ·exact e
  ·exact absurd rfl (hl 0 e)
 ·have:lbN N9 1=97:=by
   by_cases e:lbN N9 1=97
   ·exact e
   ·rw [if_neg e]at h2
    split at h2<;>cases h2
  rw [this,if_neg (by decide)];rfl
 ·have:lbN N9 2=98:=by
   by_cases e:lbN N9 2=97
   ·rw [if_pos e]at h2;cases h2
   ·rw [if_neg e]at h2
    by_cases e2:lbN N9 2=98
    ·exact e2
    ·rw [if_neg e2]at h2;cases h2
  rw [this,if_neg (by decide)];rfl
theorem xzys (N:Nf){lb lb':Nat->Nat}(a:Nat)(L:List (List Int)):∀ k,(∀ j,j<k->lb j=lb' j)->rowTo N lb a L k=rowTo N lb' a L k
 |0,_=>rfl
 |k+1,h=>by
  unfold rowTo;rw [xzys N a L k fun j hj=>h j (by omega),h k (by omega)]
theorem xzyt (N:Nf){lb lb':Nat->Nat}(C:Nat)(h:∀ j,j<C->lb j=lb' j):∀ n,subTo N lb C n=subTo N lb' C n
 |0=>rfl
 |n+1=>by
  unfold subTo;rw [xzyt N C h n]
  cases subTo N lb' C n with
  |none=>rfl
  |some p=>
   obtain⟨L,R⟩:=p;simp only [xzys N n L C h]
theorem N9_sub3:subTo N9 lb9 3 3=some ([[],[0,1],[2]],[[-1,1, -1],[-1, -1,2],[-1, -1, -1]]):=by decide+kernel
theorem N9_sub:subZ N9 (lbN N9) (clN N9)=some ([[],[0,1],[2]],[[-1,1, -1],[-1, -1,2],[-1, -1, -1]]):=by
 rw [N9_cl];refine xzrr N9 (lbN N9) 3 3 ?_ (by decide);rw [xzyt N9 3 N9_lb];exact N9_sub3
def D9:Df:=⟨ofN N9,3,[[-1,1, -1],[-1, -1,2],[-1, -1, -1]],[-1,0,1]⟩
theorem N9_tags:tagsL N9 [[],[0,1],[2]]=[-1,0,1]:=by decide+kernel
theorem N9_ans:subAns N9=(D9,0):=by
 unfold subAns;rw [if_pos N9_small.2,N9_sub];simp only [N9_tags,N9_cl]
 rfl
theorem D9_may:D9.may=true:=by
 have h:mayB (ofN N9) ((3:Nat):Int)=true:=by rw [<-N9_cl];exact xzox _
 unfold Df.may;rw [show mayB D9.of D9.n=true from h]
 decide+kernel
theorem D9_runs:D9.run ⟨#[97,98]⟩=2/\D9.run ⟨#[98]⟩= -1:=by
 unfold Df.run;rw [D9_may]
 decide+kernel
end
end Go.Proofs.YtgbljnnmhmlifaaGreatDoor
