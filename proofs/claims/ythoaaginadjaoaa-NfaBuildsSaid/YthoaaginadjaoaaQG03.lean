/-
 WHAT hackleref04's Nodes, Deep, node, May, Same, Void, Sets ANSWER, at every tree: contracts. No condition.
-/
import Derived.LoopTactic
import Derived.ChangeArms
import Derived.ChangeSame
import Derived.DataReads
import Derived.Deep.Slices
import Derived.ChangeSlices
import Derived.ProofKit
import Derived.OpenShut
import Derived.Deep.DeepHandedRow
import Derived.Stop.Joined
import Derived.JoinedCond
import Derived.LaidMore
import Derived.ChangeMaps5
import Derived.Laws.IdiomArrays
import Derived.Test.YthoaaginadjaoaaQG02
namespace Go.Proofs.Ythoaaginadjaoaa
section
open Go.RowKit
mutual
def Tree.nodes:Tree->Nat
 | .node _ _ l _ _=>nodesL l+1
def nodesL:List Tree->Nat
 |[]=>0
 |t::r=>t.nodes+nodesL r
end
theorem xzgu:∀ (l:List Tree) (t:Tree),nodesL (l++[t])=nodesL l+t.nodes
 |[],t=>by simp [nodesL]
 |a::l,t=>by simp only [List.cons_append,nodesL,xzgu l t];omega
theorem xzma {l:List Tree}{i:Nat}(h:i<l.length):nodesL (l.take (i+1))=nodesL (l.take i)+(l[i]).nodes:=by
 rw [<-List.take_append_getElem h,xzgu]
theorem xztu (a b:Nat):wrap64 (wrap64 ((a:Int)+1)+wrap64 (b:Int))=IntKind.i64.wrap (((a+1+b:Nat)):Int):=by
 rw [IntKind.wrap_i64];unfold wrap64;omega
set_option maxHeartbeats 2000000 in
theorem xzfs:∀ (T:Tree) (v:Value) (w:World),T.At w v->Calls Try.prog 22 #[v] w fun e w'=>e=.returned (.int .i64 (IntKind.i64.wrap (T.nodes:Int)))/\Below w.heap.size w w':=by
 intro T
 induction T using Tree.ind with
 |h k m l lo hi ih=>
  intro v w hat;obtain⟨A,c,rfl,hc,hs⟩:=hat.open;have HS:=zd hs;have IH:=zd ih;clear hat hs ih;unfold reV reL
  go_enter Try.func22,Try.ntmps22
  go_wp2;have hbox:=BlkIs.new w 39 (reL k m A l.length c lo hi).toArray;unfold reL at hbox
  go_loopw [3,4] (fun n i wr=>∃ j:Nat,n=.int .i64 (IntKind.i64.wrap ((nodesL (l.take j)+1:Nat):Int))/\i=.int .i64 j/\j<=l.length/\Hid (Below w.heap.size w wr/\BlkIs wr w.heap.size 39 (reL k m A l.length c lo hi).toArray)) (fun _ i _=>l.length - (intOf i).toNat)
  case atStart=>exact⟨0,by simp [nodesL,IntKind.wrap_i64],rfl,Nat.zero_le _,zd ⟨(Below.refl _ _).alloc (Nat.le_refl _) _,hbox⟩⟩
  case round=>
   obtain⟨j,rfl,rfl,hj,HH⟩:=hrel;obtain⟨hb,hbl⟩:=HH.out;have HB:=zd HH.out;clear hbox;unfold reL at hbl;obtain⟨_,_,_,_,_,c5,_,_⟩:=hbl.eight
   by_cases hp:j<l.length
   ·have hdl:decide ((j:Int)<(l.length:Int))=true:=by simp;omega
    obtain⟨b,o,rfl,hbw,hg⟩:=HS.out (by intro e;subst e;simp at hp);obtain⟨cs,hcat,hlen,hrow⟩:=hg j hp;obtain⟨A',n',c',rfl⟩:=hcat.eight;obtain⟨r0,r1,r2,r3,r4,r5,r6,r7⟩:=xzaj hrow hb;have hcat2:=hcat.step hb;have hcall:=IH.out _ (List.getElem_mem hp) _ wr hcat2
    have hk1:IntKind.i64.wrap ((j:Int)+1)=((j+1:Nat):Int):=by rw [IntKind.wrap_i64];omega
    have HC:=zd hcall;clear hrow hcat hcat2 hcall hg hb hbl
    go_wp2_with fail
    refine HC.out.mono ?_;rintro e w1 ⟨rfl,hb1⟩;have HB1:=zd hb1;clear hb1;go_wp2;refine⟨⟨j+1,?_,by go_num,hp,zd ?_⟩,by simp [intOf];omega⟩
    ·rw [xzma hp,xztu]
     have:=HB.out.1;rw [Nat.add_right_comm]
    ·exact⟨HB.out.1.trans (HB1.out.mono HB.out.1.size),HB.out.2.step HB1.out⟩
   ·have hdl:decide ((j:Int)<(l.length:Int))=false:=by simp;omega
    obtain rfl:j=l.length:=by omega
    go_wp2;go_ret;rw [List.take_length];exact⟨rfl,hb⟩
mutual
def Tree.deepW:Tree->Int
 | .node _ _ l _ _=>wrap64 ((deepsW l).foldl (fun d x=>if d<x then x else d) 0+1)
def deepsW:List Tree->List Int
 |[]=>[]
 |t::r=>t.deepW::deepsW r
end
def deepM (l:List Tree):Int:=(deepsW l).foldl (fun d x=>if d<x then x else d) 0
theorem xzfb:∀ (l r:List Tree),deepsW (l++r)=deepsW l++deepsW r
 |[],r=>rfl
 |a::l,r=>by simp only [List.cons_append,deepsW,xzfb l r]
theorem xznj {l:List Tree}{i:Nat}(h:i<l.length):deepM (l.take (i+1))=if deepM (l.take i)<(l[i]).deepW then(l[i]).deepW else deepM (l.take i):=by
 unfold deepM;rw [<-List.take_append_getElem h,xzfb,List.foldl_append];rfl
set_option maxHeartbeats 2000000 in
theorem xzmb:∀ (T:Tree) (v:Value) (w:World),T.At w v->Calls Try.prog 23 #[v] w fun e w'=>e=.returned (.int .i64 T.deepW)/\Below w.heap.size w w':=by
 intro T
 induction T using Tree.ind with
 |h k m l lo hi ih=>
  intro v w hat;obtain⟨A,c,rfl,hc,hs⟩:=hat.open;have HS:=zd hs;have IH:=zd ih;clear hat hs ih;unfold reV reL
  go_enter Try.func23,Try.ntmps23
  go_wp2;have hbox:=BlkIs.new w 39 (reL k m A l.length c lo hi).toArray;unfold reL at hbox
  go_loopw [3,4] (fun n i wr=>∃ j:Nat,n=.int .i64 (deepM (l.take j))/\i=.int .i64 j/\j<=l.length/\Hid (Below w.heap.size w wr/\BlkIs wr w.heap.size 39 (reL k m A l.length c lo hi).toArray)) (fun _ i _=>l.length - (intOf i).toNat)
  case atStart=>exact⟨0,by simp [deepM,deepsW],rfl,Nat.zero_le _,zd ⟨(Below.refl _ _).alloc (Nat.le_refl _) _,hbox⟩⟩
  case round=>
   obtain⟨j,rfl,rfl,hj,HH⟩:=hrel;obtain⟨hb,hbl⟩:=HH.out;have HB:=zd HH.out;clear hbox;unfold reL at hbl;obtain⟨_,_,_,_,_,c5,_,_⟩:=hbl.eight
   by_cases hp:j<l.length
   ·have hdl:decide ((j:Int)<(l.length:Int))=true:=by simp;omega
    obtain⟨b,o,rfl,hbw,hg⟩:=HS.out (by intro e;subst e;simp at hp);obtain⟨cs,hcat,hlen,hrow⟩:=hg j hp;obtain⟨A',n',c',rfl⟩:=hcat.eight;obtain⟨r0,r1,r2,r3,r4,r5,r6,r7⟩:=xzaj hrow hb;have hcat2:=hcat.step hb;have hcall:=IH.out _ (List.getElem_mem hp) _ wr hcat2
    have hk1:IntKind.i64.wrap ((j:Int)+1)=((j+1:Nat):Int):=by rw [IntKind.wrap_i64];omega
    have HC:=zd hcall;clear hrow hcat hcat2 hcall hg hb hbl;have hst:=xznj hp;generalize(l[j]).deepW=x at*;generalize deepM (l.take j)=d at*;have HST:=zd hst;clear hst
    by_cases hx:d<x
    ·have hgt:decide (x>d)=true:=by simp;omega
     go_wp2_with fail
     refine HC.out.mono ?_;rintro e w1 ⟨rfl,hb1⟩;have HB1:=zd hb1;clear hb1;go_wp2;refine⟨⟨j+1,?_,by go_num,hp,zd ?_⟩,by simp [intOf];omega⟩
     ·rw [HST.out,if_pos hx]
     ·exact⟨HB.out.1.trans (HB1.out.mono HB.out.1.size),HB.out.2.step HB1.out⟩
    ·have hgt:decide (x>d)=false:=by simp;omega
     go_wp2_with fail
     refine HC.out.mono ?_;rintro e w1 ⟨rfl,hb1⟩;have HB1:=zd hb1;clear hb1;go_wp2;refine⟨⟨j+1,?_,by go_num,hp,zd ?_⟩,by simp [intOf];omega⟩
     ·rw [HST.out,if_neg (by omega)]
     ·exact⟨HB.out.1.trans (HB1.out.mono HB.out.1.size),HB.out.2.step HB1.out⟩
   ·have hdl:decide ((j:Int)<(l.length:Int))=false:=by simp;omega
    obtain rfl:j=l.length:=by omega
    rw [List.take_length]
    have hD:Tree.deepW (.node k m l lo hi)=wrap64 (deepM l+1):=by unfold Tree.deepW deepM;rfl
    have HD:=zd hD;clear hD;generalize deepM l=d at*;go_wp2;go_ret;rw [HD.out];refine⟨?_,hb⟩
    rfl
def okNode (k:Int)(m:Nat->Bool)(n:Nat)(lo hi:Int):Bool:=
 if((k != 1&& !setEq m (fun _=>false))||(k != 4&&(lo != 0||hi != 0)))=true then false
 else if k=0\/k=1 then decide (n=0)
 else if k=2\/k=3 then decide (2<=n)
 else if k=4 then decide (n=1/\0<=lo/\lo<=64/\(hi= -1\/lo<=hi/\hi<=64))
 else false
mutual
def Tree.ok:Tree->Bool
 | .node k m l lo hi=>allOk l&&okNode k m l.length lo hi
def allOk:List Tree->Bool
 |[]=>true
 |t::r=>t.ok&&allOk r
end
theorem xzfh:∀ {l:List Tree},allOk l=true↔ ∀ t∈l,t.ok=true
 |[]=>by simp [allOk]
 |a::l=>by simp only [allOk,Bool.and_eq_true,List.mem_cons,forall_eq_or_imp,xzfh (l:=l)]
theorem xznk {l:List Tree}{i:Nat}(h:i<l.length)(ha:allOk (l.take i)=true)(hx:(l[i]).ok=true):allOk (l.take (i+1))=true:=by
 rw [xzfh]at ha ⊢;intro t ht;rw [<-List.take_append_getElem h,List.mem_append]at ht
 rcases ht with ht|ht
 ·exact ha t ht
 ·simp at ht;subst ht;exact hx
theorem xzqz {l:List Tree}{i:Nat}(h:i<l.length)(hx:(l[i]).ok=false):allOk l=false:=by
 rw [Bool.eq_false_iff];intro ha;rw [xzfh]at ha;rw [ha _ (List.getElem_mem h)]at hx;cases hx
theorem xzdt:setV (fun _=>false)=.agg #[.int .u64 0,.int .u64 0,.int .u64 0,.int .u64 0]:=by
 have:∀ i,i<4->wd (fun _=>false) i=0:=by decide+kernel
 unfold setV;rw [this 0 (by omega),this 1 (by omega),this 2 (by omega),this 3 (by omega)];rfl
set_option maxHeartbeats 4000000 in
theorem xzmc:∀ (T:Tree) (v:Value) (w:World),T.At w v->Calls Try.prog 24 #[v] w fun e w'=>e=.returned (.bool T.ok)/\Below w.heap.size w w':=by
 intro T
 induction T using Tree.ind with
 |h k m l lo hi ih=>
  intro v w hat;obtain⟨A,c,rfl,hc,hs⟩:=hat.open;have HS:=zd hs;have IH:=zd ih;clear hat hs ih;unfold reV reL;obtain⟨R,hR⟩:∃ R,Tree.ok (.node k m l lo hi)=R:=⟨_,rfl⟩;rw [hR];have HRR:=zd hR;clear hR
  go_enter Try.func24,Try.ntmps24
  go_wp2;have hbox:=BlkIs.new w 39 (reL k m A l.length c lo hi).toArray;unfold reL at hbox
  go_loopw [3] (fun i wr=>∃ j:Nat,i=.int .i64 j/\j<=l.length/\Hid (Below w.heap.size w wr/\BlkIs wr w.heap.size 39 (reL k m A l.length c lo hi).toArray/\allOk (l.take j)=true)) (fun i _=>l.length - (intOf i).toNat)
  case atStart=>exact⟨0,rfl,Nat.zero_le _,zd ⟨(Below.refl _ _).alloc (Nat.le_refl _) _,hbox,rfl⟩⟩
  case round=>
   obtain⟨j,rfl,hj,HH⟩:=hrel;obtain⟨hb,hbl,hall⟩:=HH.out;have HB:=zd HH.out;clear hbox;unfold reL at hbl;obtain⟨c0,c1,c2,c3,c4,c5,c6,c7⟩:=hbl.eight
   by_cases hp:j<l.length
   ·have hdl:decide ((j:Int)<(l.length:Int))=true:=by simp;omega
    obtain⟨b,o,rfl,hbw,hg⟩:=HS.out (by intro e;subst e;simp at hp);obtain⟨cs,hcat,hlen,hrow⟩:=hg j hp;obtain⟨A',n',c',rfl⟩:=hcat.eight;obtain⟨r0,r1,r2,r3,r4,r5,r6,r7⟩:=xzaj hrow hb;have hcat2:=hcat.step hb;have hcall:=IH.out _ (List.getElem_mem hp) _ wr hcat2
    have hk1:IntKind.i64.wrap ((j:Int)+1)=((j+1:Nat):Int):=by rw [IntKind.wrap_i64];omega
    by_cases hx:(l[j]).ok=true
    ·have ha:=xznk hp hall hx
     rw [hx]at hcall;have HC:=zd hcall;have HA:=zd ha;clear hrow hcat hcat2 hcall hg hb hbl hall ha hx c0 c1 c2 c3 c4 c6 c7
     go_wp2_with fail
     refine HC.out.mono ?_;rintro e w1 ⟨rfl,hb1⟩;have HB1:=zd hb1;clear hb1;go_wp2;exact⟨⟨j+1,by go_num,hp,zd ⟨HB.out.1.trans (HB1.out.mono HB.out.1.size),HB.out.2.1.step HB1.out,HA.out⟩⟩,by simp [intOf];omega⟩
    ·have hx2:(l[j]).ok=false:=by simpa using hx
     have ha:=xzqz hp hx2;rw [hx2]at hcall;have HC:=zd hcall;have HA:=zd (show R=false by rw [<-HRR.out];unfold Tree.ok;rw [ha];rfl);clear hrow hcat hcat2 hcall hg hb hbl hall ha hx hx2 c0 c1 c2 c3 c4 c6 c7
     go_wp2_with fail
     refine HC.out.mono ?_;rintro e w1 ⟨rfl,hb1⟩;have HB1:=zd hb1;clear hb1;go_wp2;go_ret;rw [HA.out];exact⟨rfl,HB.out.1.trans (HB1.out.mono HB.out.1.size)⟩
   ·have hdl:decide ((j:Int)<(l.length:Int))=false:=by simp;omega
    obtain rfl:j=l.length:=by omega
    rw [List.take_length]at hall;have HO:=zd (show R=okNode k m l.length lo hi by rw [<-HRR.out];unfold Tree.ok;rw [hall];rfl);have hne:=ne_set m (fun _=>false);rw [xzdt]at hne;unfold setV at hne;clear hall hbl HH HB hj hp HS IH HRR;go_wp2
    all_goals (
     go_ret;refine⟨?_,hb⟩;rw [HO.out];clear HO hne hc hdl hb c0 c1 c2 c3 c4 c5 c6 c7;refine congrArg (fun b=>Ending.returned (Value.bool b)) ?_;unfold okNode
     first|(simp_all;done)|(simp_all;omega)|grind)
end
section
open Go.ChangeShapes Go.WideShapes Go.ChangeAt Go.RowKit Go.Deep
instance:Inhabited Tree:=⟨.node 0 (fun _=>false) [] 0 0⟩
section
variable {H : Type} {enc : TypeId × Value → H} {W : World} {base : Nat} {spare : Nat → Bool} {held : Bool}
theorem xznl:Try.prog.cellsOf 35=1:=by kernel_rfl
theorem xzkm {x:Int}(h:(Lit.int .u64 x).wf=true):∃ n:Nat,n<18446744073709551616/\x=(n:Int):=by
 have h2:0<=x/\x<18446744073709551616:=by
  simp [Lit.wf,IntKind.min,IntKind.max,IntKind.signed,IntKind.bits]at h
  omega
 exact⟨x.toNat,by omega,by omega⟩
theorem xznm {fuel:Nat}{c0 c1 c2 c3:Value}{x:DataW H×List MemPlace}(hf:DataW.trod enc Try.prog W base spare held fuel 37 [c0,c1,c2,c3]=some x):
 ∃ m,c0=.int .u64 (wd m 0:Nat)/\c1=.int .u64 (wd m 1:Nat)/\c2=.int .u64 (wd m 2:Nat)/\c3=.int .u64 (wd m 3:Nat):=by
 obtain⟨y0,y1,y2,y3,k,_,hy0,hy1,hy2,hy3⟩:=trod_array4 Try.underlying37 xznl hf;obtain⟨x0,e0,_,w0⟩:=DataW.trod_int Try.underlying35 hy0;obtain⟨x1,e1,_,w1⟩:=DataW.trod_int Try.underlying35 hy1;obtain⟨x2,e2,_,w2⟩:=DataW.trod_int Try.underlying35 hy2;obtain⟨x3,e3,_,w3⟩:=DataW.trod_int Try.underlying35 hy3
 simp at e0 e1 e2 e3
 subst e0 e1 e2 e3;obtain⟨n0,l0,rfl⟩:=xzkm w0;obtain⟨n1,l1,rfl⟩:=xzkm w1;obtain⟨n2,l2,rfl⟩:=xzkm w2;obtain⟨n3,l3,rfl⟩:=xzkm w3;refine⟨memOf n0 n1 n2 n3,?_⟩;exact⟨by rw [<-xzqr (a1:=n1) (a2:=n2) (a3:=n3) l0],by rw [<-xzqs (a0:=n0) (a2:=n2) (a3:=n3) l1],by rw [<-xzqt (a0:=n0) (a1:=n1) (a3:=n3) l2],by rw [<-xzqu (a0:=n0) (a1:=n1) (a2:=n2) l3]⟩
theorem xzhq:∀ (l:List Tree) (es:List (DataW H)),l.length=es.length->(∀ i (h:i<l.length) (h':i<es.length),(l[i]).nodes<=Rows.uptoBulk es[i])->nodesL l<=Rows.uptoBulkAll es
 |[],_,_,_=>by unfold nodesL;omega
 |t::r,[],h,_=>by simp at h
 |t::r,e::es,h,hi=>by
  unfold nodesL Rows.uptoBulkAll;have h0:=hi 0 (by simp) (by simp);have h1:=xzhq r es (by simpa using h) (fun i a b=>hi (i+1) (by simpa using a) (by simpa using b))
  simp at h0
  omega
theorem xzra {α:Type}(l:List α)(h:l.length=8):∃ a b c d e f g i,l=[a,b,c,d,e,f,g,i]:=by
 match l,h with
 |[a,b,c,d,e,f,g,i],_=>exact⟨a,b,c,d,e,f,g,i,rfl⟩
theorem xzjl:Try.prog.cellsOf 39=8:=by kernel_rfl
theorem xzrb:Try.prog.cellsOf 3=1:=by kernel_rfl
theorem xznn:Try.prog.cellsOf 37=4:=by kernel_rfl
theorem xzrc:Try.prog.cellsOf 22=1:=by kernel_rfl
theorem xzjm {P:Program}{t:TypeId}{f0 f1 f2 f3 f4:Field}{fuel:Nat}{cs:List Value}{x:DataW H×List MemPlace}(ht:P.underlying t=some (.struct #[f0,f1,f2,f3,f4]))(h:DataW.trod enc P W base spare held fuel t cs=some x):
 ∃ y0 y1 y2 y3 y4 n,fuel=n+1/\x.1=.agg [y0.1,y1.1,y2.1,y3.1,y4.1]/\cs.length=P.cellsOf t/\DataW.trod enc P W base spare held n f0.type ((cs.drop f0.offset).take (P.cellsOf f0.type))=some y0/\
  DataW.trod enc P W base spare held n f1.type ((cs.drop f1.offset).take (P.cellsOf f1.type))=some y1/\DataW.trod enc P W base spare held n f2.type ((cs.drop f2.offset).take (P.cellsOf f2.type))=some y2/\
  DataW.trod enc P W base spare held n f3.type ((cs.drop f3.offset).take (P.cellsOf f3.type))=some y3/\DataW.trod enc P W base spare held n f4.type ((cs.drop f4.offset).take (P.cellsOf f4.type))=some y4:=by
 obtain⟨xs,n,hn,rfl,hl,hlen,hf⟩:=DataW.trod_struct ht h
 match xs,hlen with
 |[y0,y1,y2,y3,y4],_=>exact⟨y0,y1,y2,y3,y4,n,hn,by simp,hl,by simpa using hf 0 f0 rfl,by simpa using hf 1 f1 rfl,by simpa using hf 2 f2 rfl,by simpa using hf 3 f3 rfl,by simpa using hf 4 f4 rfl⟩
theorem trod_re:∀ (fuel:Nat) (cs:List Value) (x:DataW H×List MemPlace),DataW.trod enc Try.prog W base spare held fuel 39 cs=some x->
 ∃ T:Tree,T.At W (.agg cs.toArray)/\cs.length=8/\T.nodes<=Rows.uptoBulk x.1:=by
 intro fuel
 induction fuel using Nat.strongRecOn with
 |_ fuel ih=>
  intro cs x h;obtain⟨y0,y1,y2,y3,y4,n,rfl,hx1,hlen,f0,f1,f2,f3,f4⟩:=xzjm Try.underlying39 h;rw [xzjl]at hlen;obtain⟨c0,c1,c2,c3,c4,c5,c6,c7,rfl⟩:=xzra cs hlen;simp only [xzrb,xznn,xzrc,List.drop_zero,List.drop_succ_cons,List.take_succ_cons,List.take_zero]at f0 f1 f2 f3 f4;rw [hx1];obtain⟨k,e0,_,_⟩:=DataW.trod_int Try.underlying3 f0;obtain⟨lo,e3,_,_⟩:=DataW.trod_int Try.underlying3 f3;obtain⟨hi,e4,_,_⟩:=DataW.trod_int Try.underlying3 f4;obtain⟨m,rfl,rfl,rfl,rfl⟩:=xznm f1
  simp at e0 e3 e4
  subst e0 e3 e4
  rcases DataW.trod_slice Try.underlying22 f2 with⟨e5,hx⟩|⟨a,len,cap,elems,rest,n',hn',e5,hx,_,hl,hm,hel,hcell,_,_⟩
  ·simp at e5
   subst e5;refine⟨.node k m [] lo hi,?_,rfl,?_⟩
   ·unfold Tree.At
    exact⟨none,0,rfl,⟨Nat.le_refl _,by omega⟩,fun h=>absurd rfl h⟩
   ·simp [Tree.nodes,nodesL,Rows.uptoBulk]
  ·simp at e5
   subst e5
   have hone:∀ i,i<len->∃ (T:Tree) (cs':List Value),T.At W (.agg cs'.toArray)/\cs'.length=8/\W.cells? base (a.add (i*8)) 8=some cs'/\∃ e,elems[i]? =some e/\T.nodes<=Rows.uptoBulk e.1:=fun i hi=>by
    have h1:=hcell i hi;rw [xzjl,List.getElem?_eq_getElem (by omega),Option.bind_eq_some_iff]at h1;obtain⟨cs',h2,h3⟩:=h1;obtain⟨T,g1,g2,g3⟩:=ih n' (by omega) cs' _ h3;exact⟨T,cs',g1,g2,h2,_,List.getElem?_eq_getElem (by omega),g3⟩
   have hone2:∀ i,i<len->∃ q:Tree×List Value,q.1.At W (.agg q.2.toArray)/\q.2.length=8/\W.cells? base (a.add (i*8)) 8=some q.2/\∃ e,elems[i]? =some e/\q.1.nodes<=Rows.uptoBulk e.1:=fun i hi=>by
    obtain⟨T,cs',h⟩:=hone i hi;exact⟨(T,cs'),h⟩
   obtain⟨F,hF⟩:=choose_lt hone2
   have hll:((List.range len).map fun i=>(F i).1).length=len:=by simp
   have hcellx:∀ i,i<len->∀ j v,(F i).2[j]? =some v->W.cell? ((a.add (i*8)).add j)=some v:=fun i hi j v hv=>by
    have h8:=(hF i hi).2.1
    have hj:j<8:=by have:=(List.getElem?_eq_some_iff.1 hv).1;omega
    rw [<-hv];exact(World.cells?_some (hF i hi).2.2.1).2.2 j hj
   refine⟨.node k m ((List.range len).map fun i=>(F i).1) lo hi,?_,rfl,?_⟩
   ·unfold Tree.At
    refine⟨some a,cap,by rw [hll];rfl,⟨by rw [hll];exact hl,by unfold maxLen at hm;omega⟩,fun hne=>?_⟩
    have hpos:0<len:=by
     rcases Nat.eq_zero_or_pos len with h|h
     ·subst h;simp at hne
     ·exact h
    obtain⟨ab,ao,spot⟩:=a
    have hspot:spot=none:=by
     obtain⟨v,r,hv⟩:∃ v r,(F 0).2=v::r:=List.exists_cons_of_ne_nil (by intro e;have:=(hF 0 hpos).2.1;rw [e]at this;simp at this);have h0:=hcellx 0 hpos 0 v (by rw [hv];rfl)
     simpa [Addr.add]using World.cell?_spot h0
    subst hspot;refine⟨ab,ao,rfl,AllAt.mk _ ab ao fun i hi=>?_⟩
    have hi':i<len:=by simpa using hi
    refine⟨(F i).2,?_,(hF i hi').2.1,fun j v hv=>?_⟩
    ·simpa using(hF i hi').1
    ·have:=hcellx i hi' j v hv
     rw [Addr.add_lit,Addr.add_lit]at this;exact this
   ·have hnl:=xzhq ((List.range len).map fun i=>(F i).1) (elems.map (·.1)) (by simp;omega) (fun i h h'=>by
     have hi':i<len:=by simpa using h
     obtain⟨e,he,hle⟩:=(hF i hi').2.2.2
     have he2:elems[i]'(by simpa using h')=e:=by
      have:=List.getElem?_eq_getElem (l:=elems) (i:=i) (by simpa using h');rw [he]at this;exact(Option.some.inj this).symm
     simp [he2];exact hle)
    subst hx;simp only [Tree.nodes,Rows.uptoBulk,Rows.uptoBulkAll];omega
end
end
section
open Go.ChangeShapes Go.WideShapes Go.ChangeAt Go.RowKit
theorem ownKnobNone:ownKnob Try.prog.godebug=none:=by kernel_rfl
theorem laidOutYes:laidOutB Try.prog=true:=by kernel_rfl
section
variable {H : Type} {enc : TypeId × Value → H} {P : Program}
theorem xzkn (hl:laidOutB P=true){W W':World}(hb:Below W.heap.size W W'):∀ (ts:List TypeId) (vs:List Value) (ds:List (DataW H)) (ps:List MemPlace),
 (∀ t∈ts,P.readableRec t=true/\t<P.types.size)->(∀ x∈ps,x.block<W.heap.size)->DataW.TrodAll enc P W 0 (fun _=>true) true ts vs ds ps->
 DataW.TrodAll enc P W' 0 (fun b=>decide (b<W.heap.size)) true ts vs ds ps
 |[],vs,ds,ps,_,_,h=>by
  obtain⟨rfl,rfl,rfl⟩:=trodAll_nil h;exact trodAll_mk0
 |t::ts,vs,ds,ps,hr,hlt,h=>by
  obtain⟨v,vs',d,ds',p,q,rfl,rfl,rfl,h1,h2⟩:=trodAll_cons h;have hrt:=hr t (by simp)
  exact trodAll_cons_mk (WideElems.Trod_stays hl hrt.1 hrt.2 h1 (fun x hx=>hb.same (hlt x (by simp [hx]))) (fun x hx=>by simpa using hlt x (by simp [hx])))
   (xzkn hl hb ts vs' ds' q (fun u hu=>hr u (by simp [hu])) (fun x hx=>hlt x (by simp [hx])) h2)
theorem xztv {f:Func}{s:ChangeSpec}{apart fresh handsOn:Bool}{W W':World}{args:Array Value}{ds gs:List (DataW H)}{before:List MemPlace}{tb:TypeId}
 (hl:laidOutB P=true)(hr:∀ t∈f.params.toList,P.readableRec t=true/\t<P.types.size)(hres:f.resultTypes=#[tb])(htb:P.underlying tb=some .bool)(hvars:s.vars=[])
 (hW:DataW.Whole enc P f.params.toList s.vars apart W args.toList ds gs before)(hs:(s.fn H (ds++gs))={results:=[.lit (.bool true)],args:=ds})(hb:Below W.heap.size W W'):
 s.post enc P f apart fresh handsOn false W args (.bool true) W':=by
 have hlt:=hW.lt;obtain⟨p,q,hA,hV,hps,hfz,hnd⟩:=hW;have hV0:=hV;rw [hvars]at hV0;obtain⟨_,hq⟩:=trodVars_none hV0;refine⟨ds,gs,before,[],p,[],⟨p,q,hA,hV,hps,hfz,hnd⟩,?_,?_,?_,hb.frame _,fun h=>by cases h⟩
 ·rw [hs,hres]
  exact trodAll_mk1 (shut_bool htb true)
 ·rw [hs]
  exact xzkn hl hb _ _ _ _ hr (fun x hx=>hlt x (by rw [hps];simp [hx])) hA
 ·rw [hs,hvars];rfl
end
section
variable {H : Type} {enc : TypeId × Value → H} {W : World} {r : Reach} {base b0 : Nat} {spare : Nat → Bool} {held : Bool}
end
noncomputable def laidWorld (os:Os):World:=World.holding Try.prog os ⟨#[],#[],[]⟩
end
section
open Go.ChangeShapes Go.WideShapes Go.ChangeAt Go.RowKit Go.Deep
section
variable {H : Type} {enc : TypeId × Value → H} {W : World} {base : Nat} {spare : Nat → Bool} {held : Bool}
theorem xztw {fuel:Nat}{v:Value}{x:DataW H×List MemPlace}(hf:DataW.trod enc Try.prog W base spare held fuel 22 [v]=some x):
 ∃ (A:Option Addr) (l:List Tree) (c:Nat),v=.slice A l.length c/\(l.length<=c/\c<=9223372036854775807)/\(l≠[]->∃ g o,A=some ⟨g,o,none⟩/\AllAt W l g o)/\nodesL l<=Rows.uptoBulk x.1:=by
 rcases DataW.trod_slice Try.underlying22 hf with⟨e5,hx⟩|⟨a,len,cap,elems,rest,n',hn',e5,hx,_,hl,hm,hel,hcell,_,_⟩
 ·simp at e5
  subst e5;exact⟨none,[],0,rfl,⟨Nat.le_refl _,by omega⟩,fun h=>absurd rfl h,by simp [nodesL]⟩
 ·simp at e5
  subst e5
  have hone:∀ i,i<len->∃ (T:Tree) (cs':List Value),T.At W (.agg cs'.toArray)/\cs'.length=8/\W.cells? base (a.add (i*8)) 8=some cs'/\∃ e,elems[i]? =some e/\T.nodes<=Rows.uptoBulk e.1:=fun i hi=>by
   have h1:=hcell i hi;rw [xzjl,List.getElem?_eq_getElem (by omega),Option.bind_eq_some_iff]at h1;obtain⟨cs',h2,h3⟩:=h1;obtain⟨T,g1,g2,g3⟩:=trod_re n' cs' _ h3;exact⟨T,cs',g1,g2,h2,_,List.getElem?_eq_getElem (by omega),g3⟩
  have hone2:∀ i,i<len->∃ q:Tree×List Value,q.1.At W (.agg q.2.toArray)/\q.2.length=8/\W.cells? base (a.add (i*8)) 8=some q.2/\∃ e,elems[i]? =some e/\q.1.nodes<=Rows.uptoBulk e.1:=fun i hi=>by
   obtain⟨T,cs',h⟩:=hone i hi;exact⟨(T,cs'),h⟩
  obtain⟨F,hF⟩:=choose_lt hone2
  have hll:((List.range len).map fun i=>(F i).1).length=len:=by simp
  have hcellx:∀ i,i<len->∀ j v,(F i).2[j]? =some v->W.cell? ((a.add (i*8)).add j)=some v:=fun i hi j v hv=>by
   have h8:=(hF i hi).2.1
   have hj:j<8:=by have:=(List.getElem?_eq_some_iff.1 hv).1;omega
   rw [<-hv];exact(World.cells?_some (hF i hi).2.2.1).2.2 j hj
  refine⟨some a,(List.range len).map fun i=>(F i).1,cap,by rw [hll],⟨by rw [hll];exact hl,by unfold maxLen at hm;omega⟩,fun hne=>?_,?_⟩
  ·have hpos:0<len:=by
    rcases Nat.eq_zero_or_pos len with h|h
    ·subst h;simp at hne
    ·exact h
   obtain⟨ab,ao,spot⟩:=a
   have hspot:spot=none:=by
    obtain⟨v,r,hv⟩:∃ v r,(F 0).2=v::r:=List.exists_cons_of_ne_nil (by intro e;have:=(hF 0 hpos).2.1;rw [e]at this;simp at this);have h0:=hcellx 0 hpos 0 v (by rw [hv];rfl)
    simpa [Addr.add]using World.cell?_spot h0
   subst hspot;refine⟨ab,ao,rfl,AllAt.mk _ ab ao fun i hi=>?_⟩
   have hi':i<len:=by simpa using hi
   refine⟨(F i).2,?_,(hF i hi').2.1,fun j v hv=>?_⟩
   ·simpa using(hF i hi').1
   ·have:=hcellx i hi' j v hv
    rw [Addr.add_lit,Addr.add_lit]at this;exact this
  ·have hnl:=xzhq ((List.range len).map fun i=>(F i).1) (elems.map (·.1)) (by simp;omega) (fun i h h'=>by
    have hi':i<len:=by simpa using h
    obtain⟨e,he,hle⟩:=(hF i hi').2.2.2
    have he2:elems[i]'(by simpa using h')=e:=by
     have:=List.getElem?_eq_getElem (l:=elems) (i:=i) (by simpa using h');rw [he]at this;exact(Option.some.inj this).symm
    simp [he2];exact hle)
   subst hx;simp only [Rows.uptoBulk];omega
theorem AllAt.low {l:List Tree}{g o:Nat}(h:AllAt W l g o)(hne:l≠[]):g<W.heap.size:=by
 match l,hne with
 |t::r,_=>
  unfold AllAt at h;obtain⟨⟨cs,_,h2,h3⟩,_⟩:=h;obtain⟨v,r',rfl⟩:∃ v r',cs=v::r':=List.exists_cons_of_ne_nil (by intro e;rw [e]at h2;simp at h2);exact World.block_lt_of_cell? W ⟨g,o+0,none⟩ (h3 0 v rfl)
set_option maxRecDepth 100000 in
theorem arg_res {r:Reach}{b0:Nat}{v:Value}{d:DataW H}{ps:List MemPlace}(hval:Value.okWide Try.prog W r b0 22 v)(hd:DataW.Trod enc Try.prog W base spare held 22 v d ps):
 ∃ (A:Option Addr) (l:List Tree) (c:Nat),v=.slice A l.length c/\(l.length<=c/\c<=9223372036854775807)/\(l≠[]->∃ g o,A=some ⟨g,o,none⟩/\g<W.heap.size/\AllAt W l g o)/\nodesL l<=Rows.uptoBulk d:=by
 obtain⟨a1,len,cap,rfl⟩:=okWide_slice Try.underlying22 hval;obtain⟨fuel,hf⟩:=hd;obtain⟨A,l,c,h1,h2,h3,h4⟩:=xztw (by simpa [Value.cells]using hf);exact⟨A,l,c,h1,h2,fun hne=>(h3 hne).imp fun g h=>h.imp fun o h=>⟨h.1,h.2.low hne,h.2⟩,h4⟩
end
end
end Go.Proofs.Ythoaaginadjaoaa
