/-
 WHAT hackleref04's Begins ANSWERS at a ReEmpty, a ReCat, a ReAlt and a ReRep, where it answers rightly at their Subs. Condition: the text has at most 2^30 bytes.
-/
import Derived.Deep.CutRange
import Derived.Maps.AppendAt
import Derived.Deep.QuietTactic
import Derived.Shelf.Abstract
import Derived.Shelf.RegionOpen
import Derived.WalkKit
import Derived.OwnWalkIn
import Derived.TacticsInMore
import Derived.LoopNIn
import Derived.LoopIn
import Derived.RangeFuncBox
import Derived.Test.YtgjfhbpmahgfcaaDoorQG11
import Derived.Test.YtgjfhbpmahgfcaaDoorQG06
import Derived.Test.YtgjfhbpmahgfcaaDoorQG07
import Derived.Test.YtgjfhbpmahgfcaaDoorQG09
import Derived.Test.YtgjfhbpmahgfcaaDoorQG10
namespace Go.Proofs.YtgjfhbpmahgfcaaDoor
section
open Go.RowKit
end
section
open Go.RowKit
attribute [local irreducible] FreeW
end
section
open Go.RowKit
attribute [local irreducible] FreeW
end
section
open Go.RowKit
attribute [local irreducible] FreeW
abbrev Pair:=List Tree×List Tree
def PairV (V:World)(p:Pair)(q:Value×Value):Prop:=p.1.length=p.2.length/\∃ A c A' c',q.1=.slice A p.1.length c/\q.2=.slice A' p.1.length c'/\(p.1.length<=c/\c<=9223372036854775807)/\(p.1.length<=c'/\c'<=9223372036854775807)/\
 (p.1≠[]->∃ b o,A=some ⟨b,o,none⟩/\AllAt V p.1 b o)/\(p.2≠[]->∃ b o,A'=some ⟨b,o,none⟩/\AllAt V p.2 b o)
def PairsV (V:World):List Pair->List (Value×Value)->Prop
 |[],[]=>True
 |p::st,q::qs=>PairV V p q/\PairsV V st qs
 |_,_=>False
theorem PairsV.len {V:World}:∀ {st:List Pair} {qs:List (Value×Value)},PairsV V st qs->qs.length=st.length
 |[],[],_=>rfl
 |_::_,_::_,h=>by simp [PairsV.len h.2]
 |[],_::_,h=>h.elim
 |_::_,[],h=>h.elim
theorem xzja (t:Tree):t.nodes=nodesL t.sub+1:=by
 cases t with
 |node k m l lo hi=>simp only [Tree.sub,Tree.nodes]
theorem at_sub {V:World}{t:Tree}{cs:List Value}(h:Tree.At V t (.agg cs.toArray)):∃ A c,cs=reL t.kind t.set A t.sub.length c t.lo t.hi/\(t.sub.length<=c/\c<=9223372036854775807)/\(t.sub≠[]->∃ b o,A=some ⟨b,o,none⟩/\AllAt V t.sub b o):=by
 cases t with
 |node k m l lo hi=>
  unfold Tree.At at h;obtain⟨A,c,e,hc,hs⟩:=h;refine⟨A,c,?_,hc,hs⟩;unfold reV at e
  injection e with e
  have e2:=congrArg Array.toList e;exact e2
theorem xzcg {P:Program}{op:Oper}{a:Act}{w:World}{K:Act->World->Prop}{Q:Exit->Act->World->Prop}(s x:Operand)(t t2:TypeId)(hop:op.op=Op.call {callee:=Callee.builtin Builtin.append,args:=#[s,x],argTypes:=#[t,t2]}){v xv v':Value}{w':World}(hs:a.eval s=v)(hx:a.eval x=xv)
 (hrun:(Builtin.append_ #[t,t2] op.type #[v,xv]).run P w=.ok v' w')(h:K (a.put op.dst v') w'):op.wp P a w K Q:=by
 unfold Oper.wp execOp;simp only [hop,resolve,invoke,builtin,Sem.run_bind,Sem.run_pure,Result.andThen_ok,List.map_toArray,List.map_cons,List.map_nil,hs,hx,hrun];exact h
end
section
open Go.RowKit
def RowT (V W:World)(B:Nat)(v:Value)(l:List Tree)(xs:List Value):Prop:=W.ownsRow B 34 8 v l.length xs/\∀ (i:Nat) (h:i<l.length),(l[i]).At V (.agg ((xs.drop (i*8)).take 8).toArray)
theorem RowT.nil (V W:World)(B:Nat):RowT V W B (.slice none 0 0) [] []:=⟨World.ownsRow_nil _ _ _ _,fun i h=>by simp at h⟩
theorem xzej {W W':World}{B:Nat}{t:TypeId}{z n:Nat}{v:Value}{xs:List Value}(h:W.ownsRow B t z v n xs)(hk:∀ k,v.ownBlock=some k->W'.heap[k]? =W.heap[k]?):W'.ownsRow B t z v n xs:=by
 refine⟨h.1,h.2.imp id ?_⟩;rintro⟨g,cap,cur,rfl,h1,h2,h3⟩;exact⟨g,cap,cur,rfl,h1,(hk g rfl).trans h2,h3⟩
theorem RowT.heap {V W W':World}{B:Nat}{v:Value}{l:List Tree}{xs:List Value}(h:RowT V W B v l xs)(hk:∀ k,v.ownBlock=some k->W'.heap[k]? =W.heap[k]?):RowT V W' B v l xs:=⟨xzej h.1 hk,h.2⟩
theorem xzlm:(Tryd.prog.info? 34).map (fun i=>(i.zero,i.size,i.bytes))=some (some (.agg zeroL.toArray),8,80):=by kernel_rfl
def RowH (V:World)(J:Held)(bx:Nat)(l:List Tree):Held:=fun O W=>∃ Oo v xs,J Oo W/\(∀ k,O k↔Oo k\/k=bx\/v.ownBlock=some k)/\ ¬ Oo bx/\(∀ k,v.ownBlock=some k-> ¬ Oo k/\k≠bx)/\BlkIs W bx 32 #[v]/\RowT V W 0 v l xs
theorem RowH.start {V:World}{J:Held}{O:Nat->Prop}{W:World}{bx:Nat}(h:J O W)(hn: ¬ O bx)(hb:BlkIs W bx 32 #[.slice none 0 0]):RowH V J bx [] (fun k=>O k\/k=bx) W:=
 ⟨O,_,[],h,fun k=>by simp [Value.ownBlock],hn,fun k e=>by simp [Value.ownBlock]at e,hb,RowT.nil V W 0⟩
section
variable {F : Fence} {nF : Nat} {P : Program} {op : Oper} {a : Act} {w : World} {K : Act → World → Prop} {Q : Exit → Act → World → Prop}
end
end
section
open Go.RowKit
def holdsI (k:Int):Int:=if k=3 then 0 else if k=2 then 1 else if k=4 then 2 else 3
theorem xzjb (k:Int)(w:World):Calls Tryd.prog 79 #[.int .i64 k] w fun e w'=>e=.returned (.int .i64 (holdsI k))/\w'=w:=by
 unfold holdsI
 by_cases h3:k=3
 ·subst h3
  go_enter Tryd.func79,Tryd.ntmps79
  go_wp2;go_ret;exact⟨rfl,rfl⟩
 have e3:(k==3)=false:=by simp [h3]
 rw [if_neg h3]
 by_cases h2:k=2
 ·subst h2
  go_enter Tryd.func79,Tryd.ntmps79
  go_wp2;go_ret;exact⟨rfl,rfl⟩
 have e2:(k==2)=false:=by simp [h2]
 rw [if_neg h2]
 by_cases h4:k=4
 ·subst h4
  go_enter Tryd.func79,Tryd.ntmps79
  go_wp2;go_ret;exact⟨rfl,rfl⟩
 have e4:(k==4)=false:=by simp [h4]
 rw [if_neg h4]
 go_enter Tryd.func79,Tryd.ntmps79
 go_wp2;go_ret;exact⟨rfl,rfl⟩
theorem belowDrewN {B:Nat}{a w:World}(h:Below B a w)(m:Nat):Below B a (w.drewN m):=⟨h.os,h.tape,h.output,h.size,h.block⟩
section
variable {P : Program} {op : Oper} {ops : Array Oper} {rest : List Oper} {a : Act} {w : World} {Q : Exit → Act → World → Prop}
theorem xzax (hg:op.guard=none)(s x:Operand)(t t2:TypeId)(hop:op.op=Op.call {callee:=Callee.builtin Builtin.append,args:=#[s,x],argTypes:=#[t,t2]}){v xv v':Value}{w':World}(hs:a.eval s=v)(hx:a.eval x=xv)
 (hrun:(Builtin.append_ #[t,t2] op.type #[v,xv]).run P w=.ok v' w')(h:wpList P ops Q rest (a.put op.dst v') w'):wpList P ops Q (op::rest) a w:=
 wpList_plain hg fun _ hK=>xzcg s x t t2 hop hs hx hrun (hK _ _ h)
end
theorem xzhi:(Tryd.prog.info? 9).map (fun i=>(i.zero,i.size,i.bytes))=some (some (.string ⟨#[]⟩),1,16):=by kernel_rfl
theorem xzhj {B n:Nat}{v:Value}{xs:List Value}{x:ByteArray}{W:World}(h:(W.alloc (.cells #[Value.string x] 9)).ownsRow B 9 1 v n xs)(hn:n<=1099511627776)(hB:B<=(W.alloc (.cells #[Value.string x] 9)).heap.size):
 ∃ v' w',(Builtin.append_ #[96,96] 96 #[v,.slice (some ⟨W.heap.size,0,none⟩) 1 1]).run Tryd.prog (W.alloc (.cells #[Value.string x] 9))=.ok v' w'/\w'.ownsRow B 9 1 v' (n+1) (xs++[Value.string x])/\(W.alloc (.cells #[Value.string x] 9)).grownBy w' v.ownBlock:=by
 obtain⟨i0,hi,hz0,hz1,hz2⟩:=info_parts xzhi
 obtain⟨v',w',hr,hown,hg,_,_⟩:=run_append_own_at (P:=Tryd.prog) (w:=W.alloc (.cells #[Value.string x] 9)) B 96 96 9 i0 (.string ⟨#[]⟩) 1 16 Tryd.underlying96 hi hz0 hz1 hz2 rfl (by decide) v n xs h
  ⟨W.heap.size,0,none⟩ 1 1 [Value.string x] rfl (cell_one_new W (.string x) 9) (by simp [Value.oneCell']) (by unfold maxLen;omega) (by omega) hB
 exact⟨v',w',hr,hown,hg⟩
def wrapB (k k':Int)(s:ByteArray):ByteArray:=if holdsI k'<=holdsI k then((⟨#[40]⟩++s)++⟨#[41]⟩)else s
set_option maxRecDepth 100000 in
set_option maxHeartbeats 8000000 in
theorem xzln (k:Int)(m:Nat->Bool)(l:List Tree)(lo hi:Int)(v:Value)(w:World)(sep:ByteArray)(hat:Tree.At w (.node k m l lo hi) v)(tx:List ByteArray)(htx:tx.length=l.length)(hl:l.length<=1099511627776)(hsz:∀ s∈tx,s.size<=1099511627776)
 (HW:∀ (i:Nat) (h:i<l.length) (h':i<tx.length) (v:Value) (u:World),Below w.heap.size w u->(l[i]).At u v->Calls Tryd.prog 54 #[v] u fun e u'=>e=.returned (.string tx[i])/\Below u.heap.size u u')
 (ps:List ByteArray)(hps:ps.length=l.length)(hpi:∀ (i:Nat) (h:i<l.length) (h':i<tx.length) (h2:i<ps.length),ps[i]=wrapB k l[i].kind tx[i])
 (hj:(Lib.join (ps.map (·.data.toList)) sep.data.toList).length<=140737488355328):
 Calls Tryd.prog 65 #[v,.string sep] w fun e w'=>e=.returned (.string ⟨(Lib.join (ps.map (·.data.toList)) sep.data.toList).toArray⟩)/\Below w.heap.size w w':=by
 obtain⟨i0,hi0,hz0,hz1,hz2⟩:=info_parts xzhi;obtain⟨A,c,rfl,hc,hsub⟩:=hat.open;have HSUB:=zd hsub;have HWN:=zd HW;have HX:=zd (And.intro htx (And.intro hps (And.intro hl (And.intro hsz (And.intro hpi hj)))));have HI:=zd (And.intro hi0 (And.intro hz0 (And.intro hz1 hz2)));have HBX:=zd (BlkIs.new w 34 (reL k m A l.length c lo hi).toArray);have HH:=zd (fun(x:Int) (u:World)=>xzjb x u);clear hat hsub HW htx hps hl hsz hpi hj hi0 hz0 hz1 hz2;unfold reV reL at*
 go_enter Tryd.func65,Tryd.ntmps65
 go_wp2
 go_loopw [5,12] (fun x s wr=>∃ (i:Nat),s=.int .i64 i/\i<=l.length/\Hid (Below w.heap.size w wr/\BlkIs wr w.heap.size 34 #[.int .i64 k,.int .u64 (wd m 0:Nat),.int .u64 (wd m 1:Nat),.int .u64 (wd m 2:Nat),.int .u64 (wd m 3:Nat),.slice A l.length c,.int .i64 lo,.int .i64 hi]/\
  wr.ownsRow (w.heap.size+1) 9 1 x i ((ps.take i).map Value.string))) (fun _ s _=>l.length - (intOf s).toNat)
 case atStart=>
  exact⟨0,rfl,Nat.zero_le _,zd ⟨(Below.refl _ _).alloc (Nat.le_refl _) _,HBX.out,World.ownsRow_nil _ _ _ _⟩⟩
 case round=>
  obtain⟨i,rfl,hile,HI2⟩:=hrel
  by_cases hlt:i<l.length
  ·have hdi:decide ((i:Int)<(l.length:Int))=true:=by simp;omega
   obtain⟨b,o,rfl,hb,hall⟩:=HSUB.out (by intro e;subst e;simp at hlt);obtain⟨cs,hat2,hcs,hrow⟩:=hall i hlt;obtain⟨A2,c2,rfl,hc2,_⟩:=at_sub hat2;obtain⟨k0,k1,k2,k3,k4,k5,k6,k7⟩:=xzev hrow HI2.out.1
   have hit:i<tx.length:=by rw [HX.out.1];exact hlt
   have hip:i<ps.length:=by rw [HX.out.2.1];exact hlt
   have hts:tx[i].size<=1099511627776:=HX.out.2.2.2.1 _ (List.getElem_mem hit);have hUB:Below wr.heap.size wr (wr.alloc (.cells (reL l[i].kind l[i].set A2 l[i].sub.length c2 l[i].lo l[i].hi).toArray 34)):=(Below.refl _ _).alloc (Nat.le_refl _) _;have hcall:=HWN.out i hlt hit _ (wr.alloc (.cells (reL l[i].kind l[i].set A2 l[i].sub.length c2 l[i].lo l[i].hi).toArray 34)) (HI2.out.1.trans (hUB.mono HI2.out.1.size)) (hat2.step (HI2.out.1.trans (hUB.mono HI2.out.1.size)));have HC:=zd hcall;have HU:=zd (And.intro hUB (BlkIs.new wr 34 (reL l[i].kind l[i].set A2 l[i].sub.length c2 l[i].lo l[i].hi).toArray));have hpe:=HX.out.2.2.2.2.1 i hlt hit hip;unfold wrapB at hpe;have HPE:=zd hpe;clear hcall hall hat2 hrow hUB hpe
   have hup:∀ u,Below wr.heap.size wr u->u.ownsRow (w.heap.size+1) 9 1 u5 i ((ps.take i).map Value.string):=fun u hu=>xzej HI2.out.2.2 (fun q hq=>hu.block q (HI2.out.2.2.lt q hq).2)
   have HUP:=zd hup;have hw1:w.heap.size+1<=wr.heap.size:=HI2.out.2.1.lt;clear hup;unfold reL at HC HU
   cases hle:decide (holdsI l[i].kind<=holdsI k)with
   |true=>
    go_wp2_with fail
    go_at_call 54
    refine HC.out.mono ?_;rintro e w3 ⟨rfl,hb3⟩;have hg3:=(HU.out.2.step hb3).cell 0;have hb03:=HU.out.1.trans (hb3.mono HU.out.1.size);have hk3:BlkIs w3 w.heap.size 34 _:=HI2.out.2.1.step hb03;have hk3':=hk3.cell 0;simp only [zq]at hg3 hk3';have HB3:=zd (And.intro hb03 hk3);have HRUN:=zd (fun(n:Nat)=>xzhj (HUP.out ((w3.drewN n).alloc (.cells #[Value.string ((⟨#[40]⟩++tx[i])++⟨#[41]⟩)] 9)) ((belowDrewN hb03 n).alloc hb03.size _)) (by have:=HX.out.2.2.1;omega) (by show w.heap.size+1<=((w3.drewN n).alloc _).heap.size;rw [World.size_alloc];show _<=w3.heap.size+1;have:=hb03.size;omega));have hsz3:=hb03.size;clear hb3 hk3 hb03 k0 k1 k2 k3 k4 k5 k6 k7
    go_wp2_with(first
     |(go_quiet (first|(go_at_call 79;refine Calls.quiet_of_same (HH.out _ _))))
     |(obtain⟨v',w4,hrun,hown',hgrow⟩:=HRUN.out nq
       refine xzax rfl _ _ 96 96 rfl rfl rfl hrun ?_;have HGR:=zd (And.intro hown' hgrow)
       clear hown' hgrow hrun))
    have hown:∀ q,u5.ownBlock=some q->w.heap.size+1<=q/\q<wr.heap.size:=fun q hq=>HI2.out.2.2.lt q hq
    obtain⟨hg1,hg2⟩:=HGR.out;have hbq:=(HI2.out.1.trans ((belowDrewN HB3.out.1 _).mono HI2.out.1.size)).trans (((Below.refl w.heap.size _).alloc (by show _<=w3.heap.size;omega) _).grown hg2 (by simp;omega) (fun q hq=>by have:=(hown q hq).1;omega));refine⟨⟨i+1,by go_num,by omega,zd ⟨hbq,?_,?_⟩⟩,by simp [intOf];omega⟩
    ·refine(hg2.block w.heap.size (by simp;omega) (fun e=>by have:=(hown _ e.symm).1;omega)).trans ?_
     exact(Below.heap_alloc _ _ _ (by show _<w3.heap.size;omega)).trans HB3.out.2
    ·have h1:=hg1
     have e:(ps.take (i+1)).map Value.string=(ps.take i).map Value.string++[Value.string ((⟨#[40]⟩++tx[i])++⟨#[41]⟩)]:=by
      rw [List.take_succ_eq_append_getElem hip,List.map_append,HPE.out]
      simp [of_decide_eq_true hle]
     rw [e];exact h1
   |false=>
    go_wp2_with fail
    go_at_call 54
    refine HC.out.mono ?_;rintro e w3 ⟨rfl,hb3⟩;have hg3:=(HU.out.2.step hb3).cell 0;have hb03:=HU.out.1.trans (hb3.mono HU.out.1.size);have hk3:BlkIs w3 w.heap.size 34 _:=HI2.out.2.1.step hb03;have hk3':=hk3.cell 0;simp only [zq]at hg3 hk3';have HB3:=zd (And.intro hb03 hk3);have HRUN:=zd (fun(n:Nat)=>xzhj (HUP.out ((w3.drewN n).alloc (.cells #[Value.string tx[i]] 9)) ((belowDrewN hb03 n).alloc hb03.size _)) (by have:=HX.out.2.2.1;omega) (by show w.heap.size+1<=((w3.drewN n).alloc _).heap.size;rw [World.size_alloc];show _<=w3.heap.size+1;have:=hb03.size;omega));have hsz3:=hb03.size;clear hb3 hk3 hb03 k0 k1 k2 k3 k4 k5 k6 k7
    go_wp2_with(first
     |(go_quiet (first|(go_at_call 79;refine Calls.quiet_of_same (HH.out _ _))))
     |(obtain⟨v',w4,hrun,hown',hgrow⟩:=HRUN.out nq
       refine xzax rfl _ _ 96 96 rfl rfl rfl hrun ?_;have HGR:=zd (And.intro hown' hgrow)
       clear hown' hgrow hrun))
    have hown:∀ q,u5.ownBlock=some q->w.heap.size+1<=q/\q<wr.heap.size:=fun q hq=>HI2.out.2.2.lt q hq
    obtain⟨hg1,hg2⟩:=HGR.out;have hbq:=(HI2.out.1.trans ((belowDrewN HB3.out.1 _).mono HI2.out.1.size)).trans (((Below.refl w.heap.size _).alloc (by show _<=w3.heap.size;omega) _).grown hg2 (by simp;omega) (fun q hq=>by have:=(hown q hq).1;omega));refine⟨⟨i+1,by go_num,by omega,zd ⟨hbq,?_,?_⟩⟩,by simp [intOf];omega⟩
    ·refine(hg2.block w.heap.size (by simp;omega) (fun e=>by have:=(hown _ e.symm).1;omega)).trans ?_
     exact(Below.heap_alloc _ _ _ (by show _<w3.heap.size;omega)).trans HB3.out.2
    ·have h1:=hg1
     have e:(ps.take (i+1)).map Value.string=(ps.take i).map Value.string++[Value.string tx[i]]:=by
      rw [List.take_succ_eq_append_getElem hip,List.map_append,HPE.out]
      simp [of_decide_eq_false hle]
     rw [e];exact h1
  ·have hdi:decide ((i:Int)<(l.length:Int))=false:=by simp;omega
   obtain rfl:i=l.length:=by omega
   obtain⟨h1,h2,h3⟩:=HI2.out;rw [<-HX.out.2.1,List.take_length]at h3
   rcases h3.2 with⟨rfl,h4⟩|⟨g,cap,cur,rfl,h4,h5,h6,h7,h8,h9⟩
   ·have hnil:ps=[]:=List.eq_nil_of_length_eq_zero h4
    subst hnil;have HJ:=zd (fun(u:World)=>strings_Join_none none 0 sep u);have HE:=zd h1;clear h1 h2 h3 h4 HI2
    go_wp2_with(first|(go_at_call 80;go_must(refine(HJ.out _).mono ?_);rintro e u ⟨rfl,rfl⟩))
    go_ret;exact⟨rfl,HE.out⟩
   ·have HJ:=zd (strings_Join g 0 cap ps sep wr (fun j x hx=>by
     have:=h3.cells (g:=g) rfl j (.string x) (by rw [List.getElem?_map,hx];rfl);rw [Addr.add_lit]at this
     exact this) (Array.getElem?_eq_some_iff.1 h5).1 (by rw [HX.out.2.1];have:=HX.out.2.2.1;omega) h6 HX.out.2.2.2.2.2)
    have HE:=zd h1;clear h1 h2 h3 h4 h5 h6 h7 h8 h9 HI2
    go_wp2_with(first|(go_at_call 80;go_must(refine HJ.out.mono ?_);rintro e u ⟨rfl,hbj⟩;have HBJ:=zd hbj;clear hbj))
    go_ret;exact⟨rfl,HE.out.trans (HBJ.out.mono HE.out.size)⟩
end
section
open Go.RowKit
def seg (kind:Int)(t:Tree):List Tree:=if t.kind=kind then t.sub else [t]
def flatT (kind:Int)(l:List Tree):List Tree:=l.flatMap (seg kind)
attribute [local go_sem] Oper.semAt_some
end
section
open Go.RowKit
def catKeep (l:List Tree):List Tree:=l.filter (fun t=>t.kind != 0)
def catStay (l:List Tree):List Tree:=match l.find? Tree.isV with
 |some t=>[t]
 |none=>catKeep l
attribute [local go_sem] Oper.semAt_some
end
section
open Go.RowKit
def unionT (l:List Tree):Nat->Bool:=l.foldl (fun m t=>if t.kind==1 then sOr m t.set else m) (fun _=>false)
def set4 (m:Nat->Bool):List Value:=[.int .u64 (wd m 0:Nat),.int .u64 (wd m 1:Nat),.int .u64 (wd m 2:Nat),.int .u64 (wd m 3:Nat)]
attribute [local go_sem] Oper.semAt_some
end
section
open Go.RowKit
end
end Go.Proofs.YtgjfhbpmahgfcaaDoor
