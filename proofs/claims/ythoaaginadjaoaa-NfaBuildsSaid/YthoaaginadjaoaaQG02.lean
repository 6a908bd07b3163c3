/-
 WHAT THE REST OF PACKAGE octs ANSWERS: Of, Has: contracts. No condition but those that a contract names.
-/
import Derived.Deep.RegionHeld3
import Derived.BigQuiet
import Derived.Test.YthoaaginadjaoaaRows
import Derived.Lib.Hide
import Derived.Deep.SlicePairs
import Derived.ChangeSlices
import Derived.OpenShut
import Derived.Deep.WholeRow
import Derived.Test.YthoaaginadjaoaaQG01
namespace Go.Proofs.Ythoaaginadjaoaa
open Go.RowKit
def ByteRow (w:World)(B:Nat)(A:Option Addr)(l:List Nat):Prop:=
 l≠[]->∃ b off,A=some ⟨b,off,none⟩/\b<B/\∀ (k x:Nat),l[k]? =some x->w.cell? ⟨b,off+k,none⟩=some (.int .u8 (x:Int))
theorem xztr {l:List Nat}{k x:Nat}(h:l[k]? =some x)(b:Nat):sOf (l.take (k+1)) b=(sOf (l.take k) b||decide (b=x)):=by
 unfold sOf;rw [List.take_add_one,h]
 simp [Bool.decide_or]
theorem xzqx {m m':Nat->Bool}{x i:Nat}(h:∀ b,m' b=(m b||decide (b=x)))(hi:x / 64=i):bits .or .u64 (wd m i:Nat) (IntKind.u64.wrap (2^(x%64)))=(wd m' i:Int):=by
 have hp:2^(x%64)<2^64:=Nat.pow_lt_pow_right (by decide) (by omega)
 have e:IntKind.u64.wrap ((2:Int)^(x%64))=((2^(x%64):Nat):Int):=by
  have e2:((2:Int)^(x%64))=((2^(x%64):Nat):Int):=by rw [Int.natCast_pow];rfl
  rw [e2,IntKind.wrap_u64];generalize 2^(x%64)=p at*;omega
 rw [e,u64_or_nat _ _ (xzlz _ _) hp];refine congrArg (fun n:Nat=>(n:Int)) (xzqp (Nat.or_lt_two_pow (n:=64) (xzlz _ _) hp) fun j hj=>?_);rw [Nat.testBit_or,xzbm,Nat.testBit_two_pow,h]
 have:decide (x%64=j)=decide (64*i+j=x):=by rw [decide_eq_decide];omega
 rw [this];simp [hj]
theorem xzbe {m m':Nat->Bool}{x i:Nat}(h:∀ b,m' b=(m b||decide (b=x)))(hi:x / 64≠i):wd m i=wd m' i:=
 xzce fun j hj=>by
  have: ¬ 64*i+j=x:=by omega
  rw [h];simp [this]
theorem wd_none (i:Nat):wd (sOf []) i=0:=by
 have:=lowBits 0 i 0 (by decide) (fun j hj=>⟨fun h=>absurd h (by omega),fun h=>by omega⟩)
 have h2:wd (sOf []) i=wd (sBelow 0) i:=xzce fun j _=>by simp [sOf,sBelow];omega
 rw [h2,<-this]
set_option maxHeartbeats 400000 in
theorem of_any (A:Option Addr)(c:Nat)(l:List Nat)(w:World)(hr:ByteRow w w.heap.size A l)(hl:∀ x∈l,x<256)(hn:l.length<=9223372036854775807):
 Calls Try.prog 56 #[.slice A l.length c] w fun e w'=>e=.returned (setV (sOf l))/\Below w.heap.size w w':=by
 go_enter Try.func56,Try.ntmps56
 go_wp2
 go_loopw [8] (fun i wr=>∃ k,k<=l.length/\i=.int .i64 (k:Nat)/\
  wr=(w.alloc (.cells #[.int .u64 0,.int .u64 0,.int .u64 0,.int .u64 0] 37)).alloc (.cells #[.int .u64 (wd (sOf (l.take k)) 0:Nat),.int .u64 (wd (sOf (l.take k)) 1:Nat),.int .u64 (wd (sOf (l.take k)) 2:Nat),.int .u64 (wd (sOf (l.take k)) 3:Nat)] 37))
  (fun i _=>l.length - (intOf i).toNat)
 case atStart=>
  refine⟨0,Nat.zero_le _,rfl,?_⟩;simp only [List.take_zero,wd_none]
  rfl
 case round=>
  obtain⟨k,hk,rfl,rfl⟩:=hrel
  by_cases hlt:k<l.length
  ·obtain⟨b,off,rfl,hb,hcell⟩:=hr (by intro h;subst h;simp at hlt)
   have hx:=hl l[k] (List.getElem_mem hlt);have hg:l[k]? =some l[k]:=List.getElem?_eq_getElem hlt;have hc:=hcell k l[k] hg;have ht:=xztr hg;clear hg;generalize l[k]=x at*
   have hne:b≠w.heap.size:=by omega
   have hne2:b≠w.heap.size+1:=by omega
   have HT:=zd ht;clear hr hl hcell ht
   have hcase:x / 64=0\/x / 64=1\/x / 64=2\/x / 64=3:=by omega
   rcases hcase with hq|hq|hq|hq
   ·have hqi:(x:Int) / 64=0:=by omega
    have HQ:=zd hq;clear hq;go_wp2;refine⟨⟨k+1,by omega,by go_num,?_⟩,by simp [intOf];omega⟩;rw [xzqx HT.out HQ.out,xzbe (i:=1) HT.out (by rw [HQ.out];decide),xzbe (i:=2) HT.out (by rw [HQ.out];decide),xzbe (i:=3) HT.out (by rw [HQ.out];decide)]
   ·have hqi:(x:Int) / 64=1:=by omega
    have HQ:=zd hq;clear hq;go_wp2;refine⟨⟨k+1,by omega,by go_num,?_⟩,by simp [intOf];omega⟩;rw [xzqx HT.out HQ.out,xzbe (i:=0) HT.out (by rw [HQ.out];decide),xzbe (i:=2) HT.out (by rw [HQ.out];decide),xzbe (i:=3) HT.out (by rw [HQ.out];decide)]
   ·have hqi:(x:Int) / 64=2:=by omega
    have HQ:=zd hq;clear hq;go_wp2;refine⟨⟨k+1,by omega,by go_num,?_⟩,by simp [intOf];omega⟩;rw [xzqx HT.out HQ.out,xzbe (i:=0) HT.out (by rw [HQ.out];decide),xzbe (i:=1) HT.out (by rw [HQ.out];decide),xzbe (i:=3) HT.out (by rw [HQ.out];decide)]
   ·have hqi:(x:Int) / 64=3:=by omega
    have HQ:=zd hq;clear hq;go_wp2;refine⟨⟨k+1,by omega,by go_num,?_⟩,by simp [intOf];omega⟩;rw [xzqx HT.out HQ.out,xzbe (i:=0) HT.out (by rw [HQ.out];decide),xzbe (i:=1) HT.out (by rw [HQ.out];decide),xzbe (i:=2) HT.out (by rw [HQ.out];decide)]
  ·have he:l.take k=l:=List.take_of_length_le (by omega)
   rw [he];clear hr hl;go_wp2;refine bodyPost_ret (v:=setV (sOf l)) (by simp [results,Try.results56,go_sem]) rfl ⟨rfl,?_⟩;exact((Below.refl _ _).alloc (Nat.le_refl _) _).alloc (by simp) _
theorem xzco (d:Nat)(xs ys:Array Value)(j:Nat)(js:List Nat)(a b:Int)(w:World)
 (ha:(part 35 xs (j*1)).run Try.prog w=.ok (.int .u64 a) w)(hb:(part 35 ys (j*1)).run Try.prog w=.ok (.int .u64 b) w):
 (Op.eqItems (d+1) 35 1 xs ys (j::js)).run Try.prog w=if a=b then(Op.eqItems (d+1) 35 1 xs ys js).run Try.prog w else .ok false w:=by
 have h64:=run_equalIn_int (P:=Try.prog) w d 35 .u64 .u64 a b Try.underlying35;simp only [Op.eqItems,Sem.run_bind,ha,hb,Result.andThen_ok,h64]
 by_cases h:a=b
 ·simp [h]
 ·have h2:(a==b)=false:=by simpa using h
  simp [h,h2]
theorem xzgt (m n:Nat->Bool)(w:World):(binOp .eql 37 (setV m) (setV n)).run Try.prog w=.ok (.bool (setEq m n)) w:=by
 have hp0:∀ (k:Nat->Bool),(part 35 #[.int .u64 (wd k 0:Nat),.int .u64 (wd k 1:Nat),.int .u64 (wd k 2:Nat),.int .u64 (wd k 3:Nat)] (0*1)).run Try.prog w=.ok (.int .u64 (wd k 0:Nat)) w:=fun k=>by kernel_rfl
 have hp1:∀ (k:Nat->Bool),(part 35 #[.int .u64 (wd k 0:Nat),.int .u64 (wd k 1:Nat),.int .u64 (wd k 2:Nat),.int .u64 (wd k 3:Nat)] (1*1)).run Try.prog w=.ok (.int .u64 (wd k 1:Nat)) w:=fun k=>by kernel_rfl
 have hp2:∀ (k:Nat->Bool),(part 35 #[.int .u64 (wd k 0:Nat),.int .u64 (wd k 1:Nat),.int .u64 (wd k 2:Nat),.int .u64 (wd k 3:Nat)] (2*1)).run Try.prog w=.ok (.int .u64 (wd k 2:Nat)) w:=fun k=>by kernel_rfl
 have hp3:∀ (k:Nat->Bool),(part 35 #[.int .u64 (wd k 0:Nat),.int .u64 (wd k 1:Nat),.int .u64 (wd k 2:Nat),.int .u64 (wd k 3:Nat)] (3*1)).run Try.prog w=.ok (.int .u64 (wd k 3:Nat)) w:=fun k=>by kernel_rfl
 have e:(Op.equalIn 10000 37 (setV m) (setV n)).run Try.prog w=.ok (setEq m n) w:=by
  obtain⟨i,hi⟩:∃ i,Try.prog.info? 35=some i:=Option.isSome_iff_exists.1 (by kernel_rfl)
  have hc:Try.prog.cellsOf 35=1:=by kernel_rfl
  have h:=run_equalIn_array (P:=Try.prog) w 9999 #[.int .u64 (wd m 0:Nat),.int .u64 (wd m 1:Nat),.int .u64 (wd m 2:Nat),.int .u64 (wd m 3:Nat)]
   #[.int .u64 (wd n 0:Nat),.int .u64 (wd n 1:Nat),.int .u64 (wd n 2:Nat),.int .u64 (wd n 3:Nat)] Try.underlying37 hi
  rw [hc,show List.range 4=[0,1,2,3]from rfl]at h;rw [xzco 9998 _ _ 0 _ _ _ w (hp0 m) (hp0 n),xzco 9998 _ _ 1 _ _ _ w (hp1 m) (hp1 n),xzco 9998 _ _ 2 _ _ _ w (hp2 m) (hp2 n),xzco 9998 _ _ 3 _ _ _ w (hp3 m) (hp3 n)]at h;refine h.trans ?_;unfold setEq;simp only [Int.natCast_inj]
  by_cases h0:wd m 0=wd n 0
  ·by_cases h1:wd m 1=wd n 1
   ·by_cases h2:wd m 2=wd n 2
    ·by_cases h3:wd m 3=wd n 3
     ·rw [if_pos h0,if_pos h1,if_pos h2,if_pos h3,h0,h1,h2,h3];simp [Op.eqItems]
     ·rw [if_pos h0,if_pos h1,if_pos h2,if_neg h3];simp [h3]
    ·rw [if_pos h0,if_pos h1,if_neg h2];simp [h2]
   ·rw [if_pos h0,if_neg h1];simp [h1]
  ·rw [if_neg h0];simp [h0]
 have h2:=run_eql_struct (P:=Try.prog) w 37 #[.int .u64 (wd m 0:Nat),.int .u64 (wd m 1:Nat),.int .u64 (wd m 2:Nat),.int .u64 (wd m 3:Nat)]
  #[.int .u64 (wd n 0:Nat),.int .u64 (wd n 1:Nat),.int .u64 (wd n 2:Nat),.int .u64 (wd n 3:Nat)]
 refine h2.trans ?_;have e':(Op.equalIn 10000 37 (.agg #[.int .u64 (wd m 0:Nat),.int .u64 (wd m 1:Nat),.int .u64 (wd m 2:Nat),.int .u64 (wd m 3:Nat)]) (.agg #[.int .u64 (wd n 0:Nat),.int .u64 (wd n 1:Nat),.int .u64 (wd n 2:Nat),.int .u64 (wd n 3:Nat)])).run Try.prog w=.ok (setEq m n) w:=e;rw [e'];rfl
def BoxIs (g:Nat)(m:Nat->Bool)(w:World):Prop:=
 w.cell? ⟨g,0,none⟩=some (.int .u64 (wd m 0:Nat))/\w.cell? ⟨g,1,none⟩=some (.int .u64 (wd m 1:Nat))/\
 w.cell? ⟨g,2,none⟩=some (.int .u64 (wd m 2:Nat))/\w.cell? ⟨g,3,none⟩=some (.int .u64 (wd m 3:Nat))
theorem BoxIs.below {g:Nat}{m:Nat->Bool}{W W':World}(h:BoxIs g m W)(hb:Below W.heap.size W W')(hg:g<W.heap.size):BoxIs g m W':=
 ⟨(hb.cell (p:=⟨g,0,none⟩) hg).trans h.1,(hb.cell (p:=⟨g,1,none⟩) hg).trans h.2.1,(hb.cell (p:=⟨g,2,none⟩) hg).trans h.2.2.1,(hb.cell (p:=⟨g,3,none⟩) hg).trans h.2.2.2⟩
theorem xzqy {w W W':World}{g:Nat}{m:Nat->Bool}(h:Below w.heap.size w W/\g<W.heap.size/\W.cell? ⟨g,0,none⟩=some (.int .u64 (wd m 0:Nat))/\W.cell? ⟨g,1,none⟩=some (.int .u64 (wd m 1:Nat))/\
 W.cell? ⟨g,2,none⟩=some (.int .u64 (wd m 2:Nat))/\W.cell? ⟨g,3,none⟩=some (.int .u64 (wd m 3:Nat))) (hb:Below W.heap.size W W'):
 Below w.heap.size w W'/\g<W'.heap.size/\W'.cell? ⟨g,0,none⟩=some (.int .u64 (wd m 0:Nat))/\W'.cell? ⟨g,1,none⟩=some (.int .u64 (wd m 1:Nat))/\
  W'.cell? ⟨g,2,none⟩=some (.int .u64 (wd m 2:Nat))/\W'.cell? ⟨g,3,none⟩=some (.int .u64 (wd m 3:Nat)):=
 ⟨h.1.trans (hb.mono h.1.size),Nat.lt_of_lt_of_le h.2.1 hb.size,BoxIs.below h.2.2 hb h.2.1⟩
theorem of_one (x b c:Nat)(w:World)(hx:x<256)(hb:b<w.heap.size)(h0:w.cell? ⟨b,0,none⟩=some (.int .u8 (x:Int))):
 Calls Try.prog 56 #[.slice (some ⟨b,0,none⟩) 1 c] w fun e w'=>e=.returned (setV (sOf [x]))/\Below w.heap.size w w':=
 of_any (some ⟨b,0,none⟩) c [x] w (fun _=>⟨b,0,rfl,hb,fun k y hk=>by
  obtain⟨rfl,rfl⟩:k=0/\x=y:=by
   cases k with
   |zero=>simpa using hk
   |succ k=>simp at hk
  exact h0⟩) (by simpa using hx) (by simp)
set_option maxHeartbeats 400000 in
theorem xzsy (m:Nat->Bool)(c:Nat)(hc:c<256)(w:World):
 Calls Try.prog 45 #[setV m,.int .u8 c] w fun e w'=>e=.returned (.bool (m c))/\Below w.heap.size w w':=by
 have hq:=xzgt (sOr m (sOf [c])) m
 have hb:setEq (sOr m (sOf [c])) m=m c:=by
  rw [Bool.eq_iff_iff,setEq_iff]
  constructor
  ·intro h
   have:=h c hc
   simpa [sOr,sOf]using this
  ·intro h b _
   by_cases e:b=c
   ·subst e;simp [sOr,sOf,h]
   ·simp [sOr,sOf,e]
 rw [<-hb];have HB:=zd hb;clear hb
 go_enter Try.func45,Try.ntmps45
 go_wp2
 go_region_held3 (fun w'=>Below w.heap.size w w'/\w.heap.size<w'.heap.size/\w'.cell? ⟨w.heap.size,0,none⟩=some (.int .u64 (wd m 0:Nat))/\w'.cell? ⟨w.heap.size,1,none⟩=some (.int .u64 (wd m 1:Nat))/\
  w'.cell? ⟨w.heap.size,2,none⟩=some (.int .u64 (wd m 2:Nat))/\w'.cell? ⟨w.heap.size,3,none⟩=some (.int .u64 (wd m 3:Nat)))
  ((first
    |exact xzqy (by assumption) hb1
    |(refine⟨(by first|exact((Below.refl _ _).alloc (Nat.le_refl _) _).drew|exact(((Below.refl _ _).alloc (Nat.le_refl _) _).alloc (by simp) _).drew),?_,?_,?_,?_,?_⟩<;>go_simp<;>done)))
  ((first
    |(go_at_call 56;go_must(refine(of_one c _ _ _ hc (by simp) (by go_simp)).mono ?_);rintro e w1 ⟨rfl,hb1⟩)
    |(go_at_call 55;go_must(refine(any_any _ _ _).mono ?_);rintro e w1 ⟨rfl,hb1⟩)))
 have hB:Below w.heap.size w w1:=by
  have h:= ‹Below w.heap.size w w1/\_›;exact h.1
 go_wp2;go_ret;exact⟨rfl,hB⟩
end Go.Proofs.Ythoaaginadjaoaa
namespace Go.Proofs.Ythoaaginadjaoaa
open Go.RowKit
inductive Tree where
 |node (kind:Int) (m:Nat->Bool) (sub:List Tree) (lo hi:Int)
theorem Tree.ind {C:Tree->Prop}(h:∀ k m l lo hi,(∀ t∈l,C t)->C (.node k m l lo hi)):∀ T,C T
 | .node k m l lo hi=>h k m l lo hi fun t _=>Tree.ind h t
termination_by T=>SizeOf.sizeOf T
namespace Tree
def kind:Tree->Int| .node k _ _ _ _=>k
def set:Tree->Nat->Bool| .node _ m _ _ _=>m
def sub:Tree->List Tree| .node _ _ l _ _=>l
def lo:Tree->Int| .node _ _ _ a _=>a
def hi:Tree->Int| .node _ _ _ _ b=>b
end Tree
def reL (k:Int)(m:Nat->Bool)(A:Option Addr)(n c:Nat)(lo hi:Int):List Value:=
 [.int .i64 k,.int .u64 (wd m 0:Nat),.int .u64 (wd m 1:Nat),.int .u64 (wd m 2:Nat),.int .u64 (wd m 3:Nat),.slice A n c,.int .i64 lo,.int .i64 hi]
def reV (k:Int)(m:Nat->Bool)(A:Option Addr)(n c:Nat)(lo hi:Int):Value:=.agg (reL k m A n c lo hi).toArray
mutual
def Tree.At (W:World):Tree->Value->Prop
 | .node k m l lo hi,v=>∃ A c,v=reV k m A l.length c lo hi/\(l.length<=c/\c<=9223372036854775807)/\(l≠[]->∃ b o,A=some ⟨b,o,none⟩/\AllAt W l b o)
def AllAt (W:World):List Tree->Nat->Nat->Prop
 |[],_,_=>True
 |t::r,b,o=>(∃ cs:List Value,Tree.At W t (.agg cs.toArray)/\cs.length=8/\W.rangeAt b o cs)/\AllAt W r b (o+8)
end
theorem AllAt.get {W:World}:∀ (l:List Tree) (b o:Nat),AllAt W l b o->∀ (i:Nat) (h:i<l.length),∃ cs:List Value,Tree.At W l[i] (.agg cs.toArray)/\cs.length=8/\W.rangeAt b (o+i*8) cs
 |[],_,_,_,i,h=>by simp at h
 |t::r,b,o,ha,i,h=>by
  unfold AllAt at ha
  cases i with
  |zero=>simpa using ha.1
  |succ i=>
   have:=AllAt.get r b (o+8) ha.2 i (by simpa using h);rw [show o+(i+1)*8=o+8+i*8 by omega]
   simpa using this
theorem AllAt.mk {W:World}:∀ (l:List Tree) (b o:Nat),(∀ (i:Nat) (h:i<l.length),∃ cs:List Value,Tree.At W l[i] (.agg cs.toArray)/\cs.length=8/\W.rangeAt b (o+i*8) cs)->AllAt W l b o
 |[],_,_,_=>by unfold AllAt;trivial
 |t::r,b,o,ha=>by
  unfold AllAt;refine⟨by have:=ha 0 (by simp);rw [Nat.zero_mul,Nat.add_zero]at this;exact this,AllAt.mk r b (o+8) fun i h=>?_⟩;have:=ha (i+1) (by simpa using h);rw [show o+(i+1)*8=o+8+i*8 by omega]at this
  simpa using this
theorem xzbu {W W':World}{b o:Nat}{cs:List Value}(h:W.rangeAt b o cs)(hn:cs≠[])(hb:Below W.heap.size W W'):W'.rangeAt b o cs:=by
 obtain⟨v,r,rfl⟩:=List.exists_cons_of_ne_nil hn;have hlt:b<W.heap.size:=World.block_lt_of_cell? W ⟨b,o+0,none⟩ (h 0 v rfl);intro j x hx;exact(hb.cell (p:=⟨b,o+j,none⟩) hlt).trans (h j x hx)
theorem Tree.At.step {W W':World}(hb:Below W.heap.size W W'):∀ (T:Tree) {v:Value},Tree.At W T v->Tree.At W' T v:=by
 intro T
 induction T using Tree.ind with
 |h k m l lo hi ih=>
  intro v h;unfold Tree.At at h ⊢;obtain⟨A,c,rfl,hc,hs⟩:=h;refine⟨A,c,rfl,hc,fun hne=>?_⟩;obtain⟨b,o,rfl,ha⟩:=hs hne;refine⟨b,o,rfl,AllAt.mk l b o fun i hi=>?_⟩;obtain⟨cs,h1,h2,h3⟩:=AllAt.get l b o ha i hi;exact⟨cs,ih _ (List.getElem_mem hi) h1,h2,xzbu h3 (by intro e;subst e;simp at h2) hb⟩
theorem BlkIs.eight {w:World}{g:Nat}{t:TypeId}{a b c d e f x y:Value}(h:BlkIs w g t #[a,b,c,d,e,f,x,y]):w.cell? ⟨g,0,none⟩=some a/\w.cell? ⟨g,1,none⟩=some b/\w.cell? ⟨g,2,none⟩=some c/\w.cell? ⟨g,3,none⟩=some d/\
 w.cell? ⟨g,4,none⟩=some e/\w.cell? ⟨g,5,none⟩=some f/\w.cell? ⟨g,6,none⟩=some x/\w.cell? ⟨g,7,none⟩=some y:=
 ⟨h.cell 0,h.cell 1,h.cell 2,h.cell 3,h.cell 4,h.cell 5,h.cell 6,h.cell 7⟩
theorem Tree.At.eight {W:World}{T:Tree}{cs:List Value}(h:Tree.At W T (.agg cs.toArray)):∃ A n c,cs=reL T.kind T.set A n c T.lo T.hi:=by
 cases T with
 |node k m l lo hi=>
  unfold Tree.At at h;obtain⟨A,c,he,_⟩:=h;unfold reV at he
  injection he with he
  exact⟨A,l.length,c,by have:=congrArg Array.toList he;simp only at this;exact this⟩
theorem xzaj {W W':World}{b o:Nat}{k lo hi:Int}{m:Nat->Bool}{A:Option Addr}{n c:Nat}(h:W.rangeAt b o (reL k m A n c lo hi))(hb:Below W.heap.size W W'):
 W'.cell? ⟨b,o,none⟩=some (.int .i64 k)/\W'.cell? ⟨b,o+1,none⟩=some (.int .u64 (wd m 0:Nat))/\W'.cell? ⟨b,o+2,none⟩=some (.int .u64 (wd m 1:Nat))/\W'.cell? ⟨b,o+3,none⟩=some (.int .u64 (wd m 2:Nat))/\
 W'.cell? ⟨b,o+4,none⟩=some (.int .u64 (wd m 3:Nat))/\W'.cell? ⟨b,o+5,none⟩=some (.slice A n c)/\W'.cell? ⟨b,o+6,none⟩=some (.int .i64 lo)/\W'.cell? ⟨b,o+7,none⟩=some (.int .i64 hi):=by
 have h2:=xzbu h (by simp [reL]) hb;exact⟨h2 0 _ rfl,h2 1 _ rfl,h2 2 _ rfl,h2 3 _ rfl,h2 4 _ rfl,h2 5 _ rfl,h2 6 _ rfl,h2 7 _ rfl⟩
theorem Tree.At.open {W:World}{k:Int}{m:Nat->Bool}{l:List Tree}{lo hi:Int}{v:Value}(h:Tree.At W (.node k m l lo hi) v):
 ∃ A c,v=reV k m A l.length c lo hi/\(l.length<=c/\c<=9223372036854775807)/\(l≠[]->∃ b o,A=some ⟨b,o,none⟩/\b<W.heap.size/\∀ (i:Nat) (h:i<l.length),∃ cs:List Value,Tree.At W l[i] (.agg cs.toArray)/\cs.length=8/\W.rangeAt b (o+i*8) cs):=by
 unfold Tree.At at h;obtain⟨A,c,rfl,hc,hs⟩:=h;refine⟨A,c,rfl,hc,fun hne=>?_⟩;obtain⟨b,o,rfl,ha⟩:=hs hne;have hg:=AllAt.get l b o ha;refine⟨b,o,rfl,?_,hg⟩;have h0:0<l.length:=List.length_pos_iff.2 hne;obtain⟨cs,_,h2,h3⟩:=hg 0 h0;obtain⟨x,r,rfl⟩:∃ x r,cs=x::r:=List.exists_cons_of_ne_nil (by intro e;subst e;simp at h2);exact World.block_lt_of_cell? W ⟨b,o+0*8+0,none⟩ (h3 0 x rfl)
theorem ne_set (m n:Nat->Bool)(w:World):(binOp .neq 37 (setV m) (setV n)).run Try.prog w=.ok (.bool (!setEq m n)) w:=by
 have h:=xzgt m n w
 have h1:=run_eql_struct (P:=Try.prog) w 37 #[.int .u64 (wd m 0:Nat),.int .u64 (wd m 1:Nat),.int .u64 (wd m 2:Nat),.int .u64 (wd m 3:Nat)]
  #[.int .u64 (wd n 0:Nat),.int .u64 (wd n 1:Nat),.int .u64 (wd n 2:Nat),.int .u64 (wd n 3:Nat)]
 have h2:=run_neq_struct (P:=Try.prog) w 37 #[.int .u64 (wd m 0:Nat),.int .u64 (wd m 1:Nat),.int .u64 (wd m 2:Nat),.int .u64 (wd m 3:Nat)]
  #[.int .u64 (wd n 0:Nat),.int .u64 (wd n 1:Nat),.int .u64 (wd n 2:Nat),.int .u64 (wd n 3:Nat)]
 have h3:=h1.symm.trans h;refine h2.trans ?_;generalize(Op.equalIn 10000 37 _ _).run Try.prog w=r at*
 cases r with
 |ok b w'=>
  simp only [Result.andThen_ok,Result.ok.injEq,Value.bool.injEq]at h3;obtain⟨rfl,rfl⟩:=h3
  rfl
 |halt x w'=>simp [Result.andThen]at h3
end Go.Proofs.Ythoaaginadjaoaa
namespace Go.Proofs.Ythoaaginadjaoaa
open Go.RowKit
theorem xzen (x k:Nat):x / 2^k / 2=x / 2^(k+1):=by rw [Nat.div_div_eq_div_mul,Nat.pow_succ]
set_option maxHeartbeats 400000 in
theorem xzni (m:Nat->Bool)(b:Nat)(hb:b<256)(w:World):
 Calls Try.prog 65 #[setV m,.int .i64 b] w fun e w'=>e=.returned (.bool (m b))/\Below w.heap.size w w':=by
 have hcase:b / 64=0\/b / 64=1\/b / 64=2\/b / 64=3:=by omega
 have hlast:∀ q y:Nat,b / 64=q->y=wd m q / 2^(b%64)->(((y:Int)%2==1)=m b):=by
  intro q y h1 h2;have ht:=xzbm m q (b%64);rw [show 64*q+b%64=b by omega]at ht
  have h64:b%64<64:=by omega
  simp only [h64,decide_true,Bool.true_and]at ht;rw [<-ht,Nat.testBit_eq_decide_div_mod_eq,<-h2,Bool.eq_iff_iff,beq_iff_eq,decide_eq_true_iff];omega
 have HL:=zd hlast;clear hlast
 rcases hcase with hq|hq|hq|hq
 ·have hqi:(b:Int) / 64=0:=by omega
  have HQ:=zd hq;clear hq
  go_enter Try.func65,Try.ntmps65
  go_wp2
  go_loop [5,6] (fun x i=>∃ k y:Nat,k<=b%64/\y<18446744073709551616/\Hid (y=wd m 0 / 2^k)/\i=.int .i64 k/\x=.int .u64 (y:Int)) (fun _ i=>b%64 - (intOf i).toNat)
  case atStart=>exact⟨0,wd m 0,by omega,xzlz _ _,zd (by simp),rfl,rfl⟩
  case round=>
   obtain⟨k,y,hk,hy,HY,rfl,rfl⟩:=hrel
   by_cases hlt:k<b%64
   ·go_wp2
    refine⟨⟨k+1,y / 2,by omega,by omega,zd (by rw [HY.out,xzen]),by go_num,?_⟩,by simp [intOf];omega⟩;rw [Int.natCast_ediv];rfl
   ·have he:k=b%64:=by omega
    have hfin:=HL.out 0 y HQ.out (by rw [HY.out,he]);have HF:=zd hfin;clear hfin he;go_wp2;go_ret;exact⟨xzhp HF.out,(Below.refl _ _).alloc (Nat.le_refl _) _⟩
 ·have hqi:(b:Int) / 64=1:=by omega
  have HQ:=zd hq;clear hq
  go_enter Try.func65,Try.ntmps65
  go_wp2
  go_loop [5,6] (fun x i=>∃ k y:Nat,k<=b%64/\y<18446744073709551616/\Hid (y=wd m 1 / 2^k)/\i=.int .i64 k/\x=.int .u64 (y:Int)) (fun _ i=>b%64 - (intOf i).toNat)
  case atStart=>exact⟨0,wd m 1,by omega,xzlz _ _,zd (by simp),rfl,rfl⟩
  case round=>
   obtain⟨k,y,hk,hy,HY,rfl,rfl⟩:=hrel
   by_cases hlt:k<b%64
   ·go_wp2
    refine⟨⟨k+1,y / 2,by omega,by omega,zd (by rw [HY.out,xzen]),by go_num,?_⟩,by simp [intOf];omega⟩;rw [Int.natCast_ediv];rfl
   ·have he:k=b%64:=by omega
    have hfin:=HL.out 1 y HQ.out (by rw [HY.out,he]);have HF:=zd hfin;clear hfin he;go_wp2;go_ret;exact⟨xzhp HF.out,(Below.refl _ _).alloc (Nat.le_refl _) _⟩
 ·have hqi:(b:Int) / 64=2:=by omega
  have HQ:=zd hq;clear hq
  go_enter Try.func65,Try.ntmps65
  go_wp2
  go_loop [5,6] (fun x i=>∃ k y:Nat,k<=b%64/\y<18446744073709551616/\Hid (y=wd m 2 / 2^k)/\i=.int .i64 k/\x=.int .u64 (y:Int)) (fun _ i=>b%64 - (intOf i).toNat)
  case atStart=>exact⟨0,wd m 2,by omega,xzlz _ _,zd (by simp),rfl,rfl⟩
  case round=>
   obtain⟨k,y,hk,hy,HY,rfl,rfl⟩:=hrel
   by_cases hlt:k<b%64
   ·go_wp2
    refine⟨⟨k+1,y / 2,by omega,by omega,zd (by rw [HY.out,xzen]),by go_num,?_⟩,by simp [intOf];omega⟩;rw [Int.natCast_ediv];rfl
   ·have he:k=b%64:=by omega
    have hfin:=HL.out 2 y HQ.out (by rw [HY.out,he]);have HF:=zd hfin;clear hfin he;go_wp2;go_ret;exact⟨xzhp HF.out,(Below.refl _ _).alloc (Nat.le_refl _) _⟩
 ·have hqi:(b:Int) / 64=3:=by omega
  have HQ:=zd hq;clear hq
  go_enter Try.func65,Try.ntmps65
  go_wp2
  go_loop [5,6] (fun x i=>∃ k y:Nat,k<=b%64/\y<18446744073709551616/\Hid (y=wd m 3 / 2^k)/\i=.int .i64 k/\x=.int .u64 (y:Int)) (fun _ i=>b%64 - (intOf i).toNat)
  case atStart=>exact⟨0,wd m 3,by omega,xzlz _ _,zd (by simp),rfl,rfl⟩
  case round=>
   obtain⟨k,y,hk,hy,HY,rfl,rfl⟩:=hrel
   by_cases hlt:k<b%64
   ·go_wp2
    refine⟨⟨k+1,y / 2,by omega,by omega,zd (by rw [HY.out,xzen]),by go_num,?_⟩,by simp [intOf];omega⟩;rw [Int.natCast_ediv];rfl
   ·have he:k=b%64:=by omega
    have hfin:=HL.out 3 y HQ.out (by rw [HY.out,he]);have HF:=zd hfin;clear hfin he;go_wp2;go_ret;exact⟨xzhp HF.out,(Below.refl _ _).alloc (Nat.le_refl _) _⟩
def shW (f:Nat->Bool)(c i:Nat):Nat:=wd f i / 2^(min 64 (c - 64*i))
theorem xzam {f:Nat->Bool}{b i:Nat}(h:b / 64≠i):shW f b i=shW f (b+1) i:=by
 unfold shW
 have:min 64 (b - 64*i)=min 64 (b+1 - 64*i):=by omega
 rw [this]
theorem xzcy {f:Nat->Bool}{b q:Nat}(h:b / 64=q):shW f b q=2*shW f (b+1) q+(if f b then 1 else 0):=by
 unfold shW
 have e1:min 64 (b - 64*q)=b%64:=by omega
 have e2:min 64 (b+1 - 64*q)=b%64+1:=by omega
 rw [e1,e2];have ht:=xzbm f q (b%64);rw [show 64*q+b%64=b by omega,Nat.testBit_eq_decide_div_mod_eq]at ht
 have h64:b%64<64:=by omega
 simp only [h64,decide_true,Bool.true_and]at ht;rw [<-xzen];generalize wd f q / 2^(b%64)=y at*
 cases hf:f b
 ·rw [hf]at ht;have: ¬ y%2=1:=of_decide_eq_false ht;simp;omega
 ·rw [hf]at ht;have:y%2=1:=of_decide_eq_true ht;simp;omega
theorem xzca {f:Nat->Bool}{b q:Nat}(h:b / 64=q):shW f (b+1) q<9223372036854775808:=by
 unfold shW
 have e2:min 64 (b+1 - 64*q)=b%64+1:=by omega
 rw [e2,<-xzen];have h1:wd f q / 2^(b%64)<=wd f q:=Nat.div_le_self _ _;have h2:=xzlz f q;omega
theorem xzts (f:Nat->Bool)(i:Nat):shW f 0 i=wd f i:=by simp [shW]
theorem xzkl (f:Nat->Bool){i:Nat}(hi:i<4):shW f 256 i=0:=by
 unfold shW;rw [show min 64 (256 - 64*i)=64 by omega];exact Nat.div_eq_of_lt (xzlz _ _)
set_option maxHeartbeats 1000000 in
theorem xztt (f:Nat->Bool)(w:World):
 Calls Try.prog 44 #[.agg (bools f)] w fun e w'=>e=.returned (setV f)/\Below w.heap.size w w':=by
 go_enter Try.func44,Try.ntmps44
 go_wp2
 go_loopw [4] (fun s wr=>∃ (z:Int) (y0 y1 y2 y3:Nat), -1<=z/\z<256/\s=.int .i64 z/\y0<18446744073709551616/\y1<18446744073709551616/\y2<18446744073709551616/\y3<18446744073709551616/\
  Hid (y0=shW f (z+1).toNat 0/\y1=shW f (z+1).toNat 1/\y2=shW f (z+1).toNat 2/\y3=shW f (z+1).toNat 3)/\
  wr=((w.alloc (.cells (bools f) 82)).alloc (.cells #[.int .u64 0,.int .u64 0,.int .u64 0,.int .u64 0] 37)).alloc (.cells #[.int .u64 (y0:Nat),.int .u64 (y1:Nat),.int .u64 (y2:Nat),.int .u64 (y3:Nat)] 37))
  (fun s _=>(intOf s+1).toNat)
 case atStart=>
  exact⟨255,0,0,0,0,by omega,by omega,rfl,by omega,by omega,by omega,by omega,zd ⟨(xzkl f (by omega)).symm,(xzkl f (by omega)).symm,(xzkl f (by omega)).symm,(xzkl f (by omega)).symm⟩,rfl⟩
 case round=>
  obtain⟨z,y0,y1,y2,y3,hz0,hz1,rfl,h0,h1,h2,h3,HY,rfl⟩:=hrel
  by_cases hz:0<=z
  ·obtain⟨b,rfl⟩:=Int.eq_ofNat_of_zero_le hz
   have hb:b<256:=by omega
   have hbg:=xzfg f hb
   have hcase:b / 64=0\/b / 64=1\/b / 64=2\/b / 64=3:=by omega
   rw [show((b:Int)+1).toNat=b+1 by omega]at HY
   cases hfb:f b
   ·rw [hfb]at hbg
    rcases hcase with hq|hq|hq|hq
    ·have hqi:(b:Int) / 64=0:=by omega
     have hsm:y0<9223372036854775808:=by rw [HY.out.1];exact xzca hq
     have hnew:shW f b 0=2*y0+0:=by rw [xzcy hq,<-HY.out.1,hfb];rfl
     have HN:=zd hnew;have HQ:=zd hq;clear hnew hq hfb;go_wp2;refine⟨⟨(b:Int) - 1,(2*y0),y1,y2,y3,by omega,by omega,rfl,by omega,by omega,by omega,by omega,?_,?_⟩,by simp [intOf]⟩
     ·rw [show((b:Int) - 1+1).toNat=b by omega]
      exact zd ⟨HN.out.symm,(HY.out.2.1.trans (xzam (by rw [HQ.out];decide)).symm),(HY.out.2.2.1.trans (xzam (by rw [HQ.out];decide)).symm),(HY.out.2.2.2.trans (xzam (by rw [HQ.out];decide)).symm)⟩
     ·have e:(y0:Int)*2=((2*y0:Nat):Int):=by omega
      rw [e]
    ·have hqi:(b:Int) / 64=1:=by omega
     have hsm:y1<9223372036854775808:=by rw [HY.out.2.1];exact xzca hq
     have hnew:shW f b 1=2*y1+0:=by rw [xzcy hq,<-HY.out.2.1,hfb];rfl
     have HN:=zd hnew;have HQ:=zd hq;clear hnew hq hfb;go_wp2;refine⟨⟨(b:Int) - 1,y0,(2*y1),y2,y3,by omega,by omega,rfl,by omega,by omega,by omega,by omega,?_,?_⟩,by simp [intOf]⟩
     ·rw [show((b:Int) - 1+1).toNat=b by omega]
      exact zd ⟨(HY.out.1.trans (xzam (by rw [HQ.out];decide)).symm),HN.out.symm,(HY.out.2.2.1.trans (xzam (by rw [HQ.out];decide)).symm),(HY.out.2.2.2.trans (xzam (by rw [HQ.out];decide)).symm)⟩
     ·have e:(y1:Int)*2=((2*y1:Nat):Int):=by omega
      rw [e]
    ·have hqi:(b:Int) / 64=2:=by omega
     have hsm:y2<9223372036854775808:=by rw [HY.out.2.2.1];exact xzca hq
     have hnew:shW f b 2=2*y2+0:=by rw [xzcy hq,<-HY.out.2.2.1,hfb];rfl
     have HN:=zd hnew;have HQ:=zd hq;clear hnew hq hfb;go_wp2;refine⟨⟨(b:Int) - 1,y0,y1,(2*y2),y3,by omega,by omega,rfl,by omega,by omega,by omega,by omega,?_,?_⟩,by simp [intOf]⟩
     ·rw [show((b:Int) - 1+1).toNat=b by omega]
      exact zd ⟨(HY.out.1.trans (xzam (by rw [HQ.out];decide)).symm),(HY.out.2.1.trans (xzam (by rw [HQ.out];decide)).symm),HN.out.symm,(HY.out.2.2.2.trans (xzam (by rw [HQ.out];decide)).symm)⟩
     ·have e:(y2:Int)*2=((2*y2:Nat):Int):=by omega
      rw [e]
    ·have hqi:(b:Int) / 64=3:=by omega
     have hsm:y3<9223372036854775808:=by rw [HY.out.2.2.2];exact xzca hq
     have hnew:shW f b 3=2*y3+0:=by rw [xzcy hq,<-HY.out.2.2.2,hfb];rfl
     have HN:=zd hnew;have HQ:=zd hq;clear hnew hq hfb;go_wp2;refine⟨⟨(b:Int) - 1,y0,y1,y2,(2*y3),by omega,by omega,rfl,by omega,by omega,by omega,by omega,?_,?_⟩,by simp [intOf]⟩
     ·rw [show((b:Int) - 1+1).toNat=b by omega]
      exact zd ⟨(HY.out.1.trans (xzam (by rw [HQ.out];decide)).symm),(HY.out.2.1.trans (xzam (by rw [HQ.out];decide)).symm),(HY.out.2.2.1.trans (xzam (by rw [HQ.out];decide)).symm),HN.out.symm⟩
     ·have e:(y3:Int)*2=((2*y3:Nat):Int):=by omega
      rw [e]
   ·rw [hfb]at hbg
    rcases hcase with hq|hq|hq|hq
    ·have hqi:(b:Int) / 64=0:=by omega
     have hsm:y0<9223372036854775808:=by rw [HY.out.1];exact xzca hq
     have hnew:shW f b 0=2*y0+1:=by rw [xzcy hq,<-HY.out.1,hfb];rfl
     have HN:=zd hnew;have HQ:=zd hq;clear hnew hq hfb;go_wp2;refine⟨⟨(b:Int) - 1,(2*y0+1),y1,y2,y3,by omega,by omega,rfl,by omega,by omega,by omega,by omega,?_,?_⟩,by simp [intOf]⟩
     ·rw [show((b:Int) - 1+1).toNat=b by omega]
      exact zd ⟨HN.out.symm,(HY.out.2.1.trans (xzam (by rw [HQ.out];decide)).symm),(HY.out.2.2.1.trans (xzam (by rw [HQ.out];decide)).symm),(HY.out.2.2.2.trans (xzam (by rw [HQ.out];decide)).symm)⟩
     ·have e:(y0:Int)*2+1=((2*y0+1:Nat):Int):=by omega
      rw [e]
    ·have hqi:(b:Int) / 64=1:=by omega
     have hsm:y1<9223372036854775808:=by rw [HY.out.2.1];exact xzca hq
     have hnew:shW f b 1=2*y1+1:=by rw [xzcy hq,<-HY.out.2.1,hfb];rfl
     have HN:=zd hnew;have HQ:=zd hq;clear hnew hq hfb;go_wp2;refine⟨⟨(b:Int) - 1,y0,(2*y1+1),y2,y3,by omega,by omega,rfl,by omega,by omega,by omega,by omega,?_,?_⟩,by simp [intOf]⟩
     ·rw [show((b:Int) - 1+1).toNat=b by omega]
      exact zd ⟨(HY.out.1.trans (xzam (by rw [HQ.out];decide)).symm),HN.out.symm,(HY.out.2.2.1.trans (xzam (by rw [HQ.out];decide)).symm),(HY.out.2.2.2.trans (xzam (by rw [HQ.out];decide)).symm)⟩
     ·have e:(y1:Int)*2+1=((2*y1+1:Nat):Int):=by omega
      rw [e]
    ·have hqi:(b:Int) / 64=2:=by omega
     have hsm:y2<9223372036854775808:=by rw [HY.out.2.2.1];exact xzca hq
     have hnew:shW f b 2=2*y2+1:=by rw [xzcy hq,<-HY.out.2.2.1,hfb];rfl
     have HN:=zd hnew;have HQ:=zd hq;clear hnew hq hfb;go_wp2;refine⟨⟨(b:Int) - 1,y0,y1,(2*y2+1),y3,by omega,by omega,rfl,by omega,by omega,by omega,by omega,?_,?_⟩,by simp [intOf]⟩
     ·rw [show((b:Int) - 1+1).toNat=b by omega]
      exact zd ⟨(HY.out.1.trans (xzam (by rw [HQ.out];decide)).symm),(HY.out.2.1.trans (xzam (by rw [HQ.out];decide)).symm),HN.out.symm,(HY.out.2.2.2.trans (xzam (by rw [HQ.out];decide)).symm)⟩
     ·have e:(y2:Int)*2+1=((2*y2+1:Nat):Int):=by omega
      rw [e]
    ·have hqi:(b:Int) / 64=3:=by omega
     have hsm:y3<9223372036854775808:=by rw [HY.out.2.2.2];exact xzca hq
     have hnew:shW f b 3=2*y3+1:=by rw [xzcy hq,<-HY.out.2.2.2,hfb];rfl
     have HN:=zd hnew;have HQ:=zd hq;clear hnew hq hfb;go_wp2;refine⟨⟨(b:Int) - 1,y0,y1,y2,(2*y3+1),by omega,by omega,rfl,by omega,by omega,by omega,by omega,?_,?_⟩,by simp [intOf]⟩
     ·rw [show((b:Int) - 1+1).toNat=b by omega]
      exact zd ⟨(HY.out.1.trans (xzam (by rw [HQ.out];decide)).symm),(HY.out.2.1.trans (xzam (by rw [HQ.out];decide)).symm),(HY.out.2.2.1.trans (xzam (by rw [HQ.out];decide)).symm),HN.out.symm⟩
     ·have e:(y3:Int)*2+1=((2*y3+1:Nat):Int):=by omega
      rw [e]
  ·have hz':z= -1:=by omega
   subst hz';obtain⟨rfl,rfl,rfl,rfl⟩:=HY.out;clear HY;simp only [show(-1+1:Int).toNat=0 from rfl,xzts]at*;go_wp2;refine bodyPost_ret (v:=setV f) (by simp [results,Try.results44,go_sem]) rfl ⟨rfl,?_⟩;exact(((Below.refl _ _).alloc (Nat.le_refl _) _).alloc (by simp) _).alloc (by simp;omega) _
def sRng (lo b:Nat):Nat->Bool:=fun j=>decide (lo<=j)&&decide (j<b)
theorem zero24 (w:World):(zeroValue 82).run Try.prog w=.ok (.agg (bools fun _=>false)) w:=
 (zero_of_info (P:=Try.prog) (t:=82) (v:=.agg (bools fun _=>false)) (n:=256) (by kernel_rfl)).1 w
theorem info24:(Try.prog.info? 82).map (·.size)=some 256:=by kernel_rfl
set_option maxHeartbeats 400000 in
theorem xzjk (lo hi:Nat)(hhi:hi<256)(w:World):
 Calls Try.prog 34 #[.int .i64 lo,.int .i64 hi] w fun e w'=>e=.returned (setV (sRange lo hi))/\Below w.heap.size w w':=by
 have z24:=zero24
 go_enter Try.func34,Try.ntmps34
 go_wp2
 go_loopw [6] (fun s wr=>∃ b:Nat,lo<=b/\(b<=hi+1\/b=lo)/\s=.int .i64 b/\
  wr=(w.alloc (.cells #[.int .u64 0,.int .u64 0,.int .u64 0,.int .u64 0] 37)).alloc (.cells (bools (sRng lo b)) 82))
  (fun s _=>256 - (intOf s).toNat)
 case atStart=>
  refine⟨lo,Nat.le_refl _,.inr rfl,rfl,?_⟩;rw [xzgs (f:=sRng lo lo) (g:=fun _=>false) (fun i _=>by unfold sRng;rw [Bool.eq_false_iff];simp)]
 case round=>
  obtain⟨b,hb0,hb1,rfl,rfl⟩:=hrel
  by_cases hlt:b<=hi
  ·have hb:b<256:=by omega
   have hbg:=xzfg (sRng lo b) hb;have hsz:=xzcx (sRng lo b);go_wp2;refine⟨⟨b+1,by omega,by omega,by go_num,?_⟩,by simp [intOf];omega⟩
   rw [xzqv,xzgs (f:=updS (sRng lo b) b true) (g:=sRng lo (b+1)) (fun i _=>by
    unfold updS sRng
    by_cases e:i=b
    ·subst e;simp [hb0]
    ·rw [if_neg e,Bool.eq_iff_iff];simp;omega)]
  ·have hset:setV (sRange lo hi)=setV (sRng lo b):=xzng fun j _=>by
    unfold sRange sRng;rw [Bool.eq_iff_iff];simp;omega
   have HS:=zd hset;clear hset
   have hblk:BlkIs ((w.alloc (.cells #[.int .u64 0,.int .u64 0,.int .u64 0,.int .u64 0] 37)).alloc (.cells (bools (sRng lo b)) 82)) (w.heap.size+1) 82 (bools (sRng lo b)):=by
    have:=BlkIs.new (w.alloc (.cells #[.int .u64 0,.int .u64 0,.int .u64 0,.int .u64 0] 37)) 82 (bools (sRng lo b))
    simpa using this
   have hR:=hblk.range
   have hI:(Try.prog.info? 82).map (·.size)=some (bools (sRng lo b)).toList.length:=by rw [info24,Array.length_toList,xzcx]
   clear hblk;have HI:=zd hI;have HR:=zd hR;clear hI hR
   go_wp2_with(first
    |(refine wpList_load_mid rfl 82 (.tmp 5) rfl (w.heap.size+1) 0 rfl (bools (sRng lo b)).toList _ HR.out Try.underlying82 rfl HI.out ?_;rw [xzqw])
    |(go_at_call 44;refine(xztt _ _).mono ?_;rintro e w1 ⟨rfl,hb1⟩;obtain⟨hc1,hf1,hz1⟩:=belowStep (g:=w.heap.size) hb1 (by simp;omega)))
   have hB1:Below w.heap.size w w1:=(((Below.refl _ _).alloc (Nat.le_refl _) _).alloc (by simp) _).trans (hb1.mono (by simp;omega));refine bodyPost_ret (v:=setV (sRng lo b)) (by simp [results,Try.results34,go_sem,hc1]) rfl ⟨congrArg Ending.returned HS.out.symm,?_⟩;exact(((hB1.setCell (p:=⟨w.heap.size,0,none⟩) (Nat.le_refl _) _).setCell (p:=⟨w.heap.size,1,none⟩) (Nat.le_refl _) _).setCell (p:=⟨w.heap.size,2,none⟩) (Nat.le_refl _) _).setCell (p:=⟨w.heap.size,3,none⟩) (Nat.le_refl _) _
end Go.Proofs.Ythoaaginadjaoaa
