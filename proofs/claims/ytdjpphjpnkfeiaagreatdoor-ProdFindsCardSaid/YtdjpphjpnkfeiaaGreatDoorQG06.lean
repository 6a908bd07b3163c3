/-
 WHAT nfa's Begin, Go, Tag ANSWER, of any automaton, may it be or not: contracts; the first places, by marks. No condition but that it lies there, and that the row is no longer than 2^30.
-/
import Derived.Lib.Strings
import Derived.Laws.IdiomStrings
import Derived.Maps.OwnSet
import Derived.Maps.AppendAt
import Derived.Test.YtdjpphjpnkfeiaaGreatDoorQG05
namespace Go.Proofs.YtdjpphjpnkfeiaaGreatDoor
section
open Go.RowKit
theorem NfaAt.form {W:World}{N:Nf}{v:Value}(h:NfaAt W N v):∃ A0 A1 A2 A3 A4 c0 c1 c2 c3 c4,v=.agg #[.slice A0 N.sets.length c0,.slice A1 N.rules.length c1,.slice A2 N.first.length c2,.slice A3 N.follow.length c3,.slice A4 N.ends.length c4,.int .i64 N.empty]:=by
 obtain⟨v0,v1,v2,v3,v4,rfl,⟨A0,c0,rfl,_,_⟩,⟨A1,c1,rfl,_,_⟩,⟨A2,c2,rfl,_,_⟩,⟨A3,c3,rfl,_,_⟩,⟨A4,c4,rfl,_,_⟩⟩:=h;exact⟨A0,A1,A2,A3,A4,c0,c1,c2,c3,c4,rfl⟩
theorem xznd {all:Int}:∀ (l:List Int) (a:Int),risesB all a l=true->∀ p∈l,a<p/\p<all
 |[],_,_,p,hp=>by cases hp
 |x::r,a,h,p,hp=>by
  unfold risesB at h;simp only [Bool.and_eq_true,decide_eq_true_eq]at h
  rcases List.mem_cons.1 hp with rfl|hp
  ·exact h.1
  ·have:=xznd r x h.2 p hp
   omega
theorem xzpk {all:Int}:∀ (l:List Int) (a:Int),risesB all a l=true->l=[]\/(l.length:Int)+a<all
 |[],_,_=>.inl rfl
 |x::r,a,h=>by
  unfold risesB at h;simp only [Bool.and_eq_true,decide_eq_true_eq]at h;refine .inr ?_
  rcases xzpk r x h.2 with rfl|h2
  ·simp;omega
  ·simp only [List.length_cons];omega
structure MayIs (N:Nf):Prop where
 small:N.sets.length<=2000
 rules:N.rules.length=N.sets.length
 follow:N.follow.length=N.sets.length
 ends:N.ends.length=N.sets.length
 rule:∀ r∈N.rules,0<=r/\r<40
 row:∀ r∈N.follow,risesB N.sets.length (-1) r=true
 first:risesB N.sets.length (-1) N.first=true
 empty: -1<=N.empty/\N.empty<40
theorem may_is {N:Nf}(h:N.may=true):MayIs N:=by
 unfold Nf.may Nf.sized Nf.rest okR at h;simp only [Bool.and_eq_true,decide_eq_true_eq,beq_iff_eq,List.all_eq_true]at h;obtain⟨⟨⟨h1,h2⟩,h3,h4⟩,h5,h6,h7,h8,h9⟩:=h;exact⟨h1,h2,h3,h4,h5,h6,h7,h8,h9⟩
theorem MayIs.firsts {N:Nf}(h:MayIs N):(∀ p∈N.first,0<=p/\p<(N.sets.length:Int))/\N.first.length<=2000:=by
 refine⟨fun p hp=>by have:=xznd _ _ h.first p hp;omega,?_⟩;have hs:=h.small
 rcases xzpk _ _ h.first with e|e
 ·rw [e];simp
 ·omega
theorem MayIs.rows {N:Nf}(h:MayIs N):∀ r∈N.follow,∀ x∈r,0<=x/\x<(N.sets.length:Int):=fun r hr x hx=>by
 have:=xznd _ _ (h.row r hr) x hx;omega
theorem MayIs.ruleAt {N:Nf}(h:MayIs N)(p:Int):0<=N.ruleAt p/\N.ruleAt p<40:=by
 unfold Nf.ruleAt;rw [List.getD_eq_getElem?_getD]
 by_cases e:p.toNat<N.rules.length
 ·rw [List.getElem?_eq_getElem e];exact h.rule _ (List.getElem_mem e)
 ·rw [List.getElem?_eq_none (by omega)];simp
end
section
open Go.RowKit
def b8 (s:ByteArray)(i:Nat):Nat:=if h:i<s.size then(s[i]'h).toNat else 0
theorem yzci {k:Nat}{f:Nat->Bool}{N:Nf}{c:Nat}:∀ p∈keepTo k f N c,0<=p/\p<(k:Int):=fun p hp=>by
 unfold keepTo at hp;obtain⟨i,hi,rfl⟩:=List.mem_map.1 hp;have:=List.mem_range.1 (List.mem_filter.1 hi).1;omega
end
section
open Go.RowKit
theorem hasI_mem {l:List Int}{q:Nat}:hasI l q=true↔(q:Int)∈l:=by
 unfold hasI;rw [List.any_eq_true]
 constructor
 ·rintro⟨x,hx,e⟩
  have:x=(q:Int):=by simpa using e
  rw [<-this];exact hx
 ·intro h
  exact⟨_,h,by simp⟩
end
section
open Go.RowKit
end
section
open Go.RowKit
def findL (L:List (List Int))(x:List Int):Option Nat:=(List.range L.length).find? fun i=>decide (1<=i)&&decide (L.getD i []=x)
def stepX (N:Nf)(L:List (List Int))(at' b:Nat):List Int:=keepTo N.sets.length (marksS N (decide (at'=0)) (L.getD at' [])) N b
def oneX (L:List (List Int))(x:List Int):Int×List (List Int):=if x=[]then(-1,L)else match findL L x with
 |some i=>((i:Int),L)
 |none=>((L.length:Int),L++[x])
def rowTo (N:Nf)(lb:Nat->Nat)(at':Nat)(L:List (List Int)):Nat->List Int×List (List Int)
 |0=>([],L)
 |k+1=>let r:=rowTo N lb at' L k;let s:=oneX r.2 (stepX N r.2 at' (lb k));(r.1++[s.1],s.2)
def subTo (N:Nf)(lb:Nat->Nat)(C:Nat):Nat->Option (List (List Int)×List (List Int))
 |0=>some ([[]],[])
 |n+1=>match subTo N lb C n with
  |none=>none
  |some (L,R)=>if n<L.length then(let r:=rowTo N lb n L C;if 600<r.2.length then none else some (r.2,R++[r.1]))else some (L,R)
def subZ (N:Nf)(lb:Nat->Nat)(C:Nat):Option (List (List Int)×List (List Int)):=subTo N lb C 601
theorem xztv (L:List (List Int))(x:List Int):∃ l,(oneX L x).2=L++l:=by
 unfold oneX
 split
 ·exact⟨[],by simp⟩
 ·split
  ·exact⟨[],by simp⟩
  ·exact⟨_,rfl⟩
theorem xzkg (N:Nf)(lb:Nat->Nat)(a:Nat)(L:List (List Int)):∀ k,(rowTo N lb a L k).1.length=k
 |0=>rfl
 |k+1=>by simp only [rowTo,List.length_append,xzkg N lb a L k];rfl
theorem xzet (N:Nf)(lb:Nat->Nat)(a:Nat)(L:List (List Int)):∀ k,∃ l,(rowTo N lb a L k).2=L++l
 |0=>⟨[],by simp [rowTo]⟩
 |k+1=>by
  obtain⟨l,h⟩:=xzet N lb a L k;obtain⟨l',h'⟩:=xztv (rowTo N lb a L k).2 (stepX N (rowTo N lb a L k).2 a (lb k));exact⟨l++l',by simp only [rowTo];rw [h',h,List.append_assoc]⟩
theorem xzhf (N:Nf)(lb:Nat->Nat)(a:Nat)(L:List (List Int))(k:Nat):∀ n,(rowTo N lb a L k).2.length<=(rowTo N lb a L (k+n)).2.length
 |0=>Nat.le_refl _
 |n+1=>by
  refine Nat.le_trans (xzhf N lb a L k n) ?_;obtain⟨l,h⟩:=xztv (rowTo N lb a L (k+n)).2 (stepX N (rowTo N lb a L (k+n)).2 a (lb (k+n)))
  show(rowTo N lb a L (k+n)).2.length<=(oneX (rowTo N lb a L (k+n)).2 (stepX N (rowTo N lb a L (k+n)).2 a (lb (k+n)))).2.length
  rw [h];simp
theorem xztw (N:Nf)(lb:Nat->Nat)(a:Nat)(L:List (List Int))(k:Nat)(i:Nat)(h:i<L.length):(rowTo N lb a L k).2.getD i []=L.getD i []:=by
 obtain⟨l,e⟩:=xzet N lb a L k;rw [e,List.getD_eq_getElem?_getD,List.getD_eq_getElem?_getD,List.getElem?_append_left h]
theorem xztx (N:Nf)(lb:Nat->Nat)(a:Nat)(L:List (List Int))(k b:Nat)(h:a<L.length):stepX N (rowTo N lb a L k).2 a b=stepX N L a b:=by
 unfold stepX;rw [xztw N lb a L k a h]
theorem xzdz (N:Nf)(lb:Nat->Nat)(C:Nat):∀ n L R,subTo N lb C n=some (L,R)->1<=L.length/\L.length<=600/\(R.length=min n L.length)
 |0,L,R,h=>by
  simp only [subTo,zh,Prod.mk.injEq]at h;obtain⟨rfl,rfl⟩:=h
  simp
 |n+1,L,R,h=>by
  simp only [subTo]at h
  cases hs:subTo N lb C n with
  |none=>rw [hs]at h;cases h
  |some p=>
   obtain⟨L0,R0⟩:=p;rw [hs]at h;obtain⟨h1,h2,h3⟩:=xzdz N lb C n L0 R0 hs;obtain⟨l,e⟩:=xzet N lb n L0 C;simp only at h
   split at h
   ·split at h
    ·cases h
    ·simp only [zh,Prod.mk.injEq]at h
     obtain⟨rfl,rfl⟩:=h
     have:(rowTo N lb n L0 C).2.length=L0.length+l.length:=by rw [e];simp
     refine⟨by omega,by omega,?_⟩;simp only [List.length_append,List.length_cons,List.length_nil];omega
   ·simp only [zh,Prod.mk.injEq]at h
    obtain⟨rfl,rfl⟩:=h;refine⟨h1,h2,?_⟩;omega
theorem xzgk (N:Nf)(lb:Nat->Nat)(C n:Nat){L R:List (List Int)}(h:subTo N lb C n=some (L,R))(hn:L.length<=n):∀ d,subTo N lb C (n+d)=some (L,R)
 |0=>h
 |d+1=>by
  show(match subTo N lb C (n+d)with
   |none=>none
   |some (L,R)=>if n+d<L.length then(let r:=rowTo N lb (n+d) L C;if 600<r.2.length then none else some (r.2,R++[r.1]))else some (L,R))=_
  rw [xzgk N lb C n h hn d];simp only;rw [if_neg (by omega)]
theorem xzhg (N:Nf)(lb:Nat->Nat)(C n:Nat)(h:subTo N lb C n=none):∀ d,subTo N lb C (n+d)=none
 |0=>h
 |d+1=>by
  show(match subTo N lb C (n+d)with
   |none=>none
   |some (L,R)=>if n+d<L.length then(let r:=rowTo N lb (n+d) L C;if 600<r.2.length then none else some (r.2,R++[r.1]))else some (L,R))=_
  rw [xzhg N lb C n h d]
theorem xzgl (N:Nf)(lb:Nat->Nat)(C n:Nat){L R:List (List Int)}(h:subTo N lb C n=some (L,R))(hn:L.length<=n):subZ N lb C=some (L,R):=by
 unfold subZ
 rcases Nat.le_total n 601 with hle|hle
 ·have:=xzgk N lb C n h hn (601 - n)
  rwa [show n+(601 - n)=601 by omega]at this
 ·cases h6:subTo N lb C 601 with
  |none=>
   have:=xzhg N lb C 601 h6 (n - 601);rw [show 601+(n - 601)=n by omega,h]at this
   cases this
  |some p=>
   obtain⟨L0,R0⟩:=p;have hs:=xzdz N lb C 601 L0 R0 h6;have:=xzgk N lb C 601 h6 (by omega) (n - 601);rw [show 601+(n - 601)=n by omega,h]at this;exact this.symm
theorem xzyq (N:Nf)(lb:Nat->Nat)(C n:Nat)(h:subTo N lb C n=none):subZ N lb C=none:=by
 unfold subZ
 rcases Nat.le_total n 601 with hle|hle
 ·have:=xzhg N lb C n h (601 - n)
  rwa [show n+(601 - n)=601 by omega]at this
 ·cases h6:subTo N lb C 601 with
  |none=>rfl
  |some p=>
   obtain⟨L0,R0⟩:=p;have hs:=xzdz N lb C 601 L0 R0 h6;have:=xzgk N lb C 601 h6 (by omega) (n - 601);rw [show 601+(n - 601)=n by omega,h]at this
   cases this
def Kept (N:Nf)(x:List Int):Prop:=x=[]\/ ∃ f b,x=keepTo N.sets.length f N b
theorem xzhh (N:Nf)(lb:Nat->Nat)(a:Nat)(L:List (List Int))(hL:∀ x∈L,Kept N x):∀ k,∀ x∈(rowTo N lb a L k).2,Kept N x
 |0=>hL
 |k+1=>by
  have ih:=xzhh N lb a L hL k;intro x hx;simp only [rowTo,oneX]at hx
  split at hx
  ·exact ih x hx
  ·split at hx
   ·exact ih x hx
   ·rcases List.mem_append.1 hx with h|h
    ·exact ih x h
    ·rw [List.mem_singleton]at h
     exact .inr ⟨_,_,h⟩
theorem xzhi (N:Nf)(lb:Nat->Nat)(C:Nat):∀ n L R,subTo N lb C n=some (L,R)->∀ x∈L,Kept N x
 |0,L,R,h=>by
  simp only [subTo,zh,Prod.mk.injEq]at h;obtain⟨rfl,rfl⟩:=h;intro x hx;rw [List.mem_singleton]at hx;exact .inl hx
 |n+1,L,R,h=>by
  simp only [subTo]at h
  cases hs:subTo N lb C n with
  |none=>rw [hs]at h;cases h
  |some p=>
   obtain⟨L0,R0⟩:=p;rw [hs]at h;have ih:=xzhi N lb C n L0 R0 hs;simp only at h
   split at h
   ·split at h
    ·cases h
    ·simp only [zh,Prod.mk.injEq]at h
     obtain⟨rfl,rfl⟩:=h;exact xzhh N lb n L0 ih C
   ·simp only [zh,Prod.mk.injEq]at h
    obtain⟨rfl,rfl⟩:=h;exact ih
end
section
open Go.RowKit
def textB (f:Nat->Bool)(i:Nat):Nat:=(wd f (i / 8)>>>(8*(i%8)))%256
theorem xzne (f:Nat->Bool)(i:Nat):textB f i<256:=Nat.mod_lt _ (by decide)
theorem xzpl (f:Nat->Bool)(i j:Nat)(hj:j<8):(textB f i).testBit j=f (8*i+j):=by
 unfold textB;rw [show 256=2^8 from rfl,Nat.testBit_mod_two_pow,Nat.testBit_shiftRight,xzaw]
 have h1:8*(i%8)+j<64:=by omega
 have h2:64*(i / 8)+(8*(i%8)+j)=8*i+j:=by omega
 rw [h2]
 simp [hj,h1]
theorem xzyr {f g:Nat->Bool}(h:∀ i,i<256->textB f i=textB g i){p:Nat}(hp:p<2048):f p=g p:=by
 have e:=xzpl f (p / 8) (p%8) (by omega);rw [h (p / 8) (by omega),xzpl g (p / 8) (p%8) (by omega)]at e;rw [show 8*(p / 8)+p%8=p by omega]at e;exact e.symm
def textR (f:Nat->Bool):ByteArray:=⟨((List.range 256).map fun i=>UInt8.ofNat (textB f i)).toArray⟩
theorem xzys {f g:Nat->Bool}(h:textR f=textR g){p:Nat}(hp:p<2048):f p=g p:=by
 refine xzyr (fun i hi=>?_) hp;unfold textR at h;have h2:=congrArg (fun b:ByteArray=>b.data.toList[i]?) h;simp only [List.getElem?_map,List.getElem?_range hi,Option.map_some,zh]at h2;have h3:=congrArg UInt8.toNat h2;simp only [UInt8.toNat_ofNat']at h3
 rwa [Nat.mod_eq_of_lt (xzne f i),Nat.mod_eq_of_lt (xzne g i)]at h3
def setOf (x:List Int):Nat->Bool:=fun p=>hasI x p
theorem yzdu {N:Nf}{x y:List Int}(hn:N.sets.length<=2000)(hx:Kept N x)(hy:Kept N y)(h:textR (setOf x)=textR (setOf y)):x=y:=by
 have form:∀ z,Kept N z->z=((List.range N.sets.length).filter fun q=>hasI z q).map fun(q:Nat)=>(q:Int):=by
  intro z hz
  rcases hz with rfl|⟨f,b,rfl⟩
  ·have:((List.range N.sets.length).filter fun q=>hasI [] q)=[]:=List.filter_eq_nil_iff.2 fun q _=>by simp [hasI]
   rw [this];rfl
  ·conv=>lhs;unfold keepTo
   congr 1
   apply List.filter_congr
   intro q hq;rw [Bool.eq_iff_iff,hasI_mem];unfold keepTo
   constructor
   ·intro e
    exact List.mem_map.2 ⟨q,List.mem_filter.2 ⟨hq,e⟩,rfl⟩
   ·intro e
    obtain⟨q',hq',e'⟩:=List.mem_map.1 e
    have:q'=q:=by omega
    subst this;exact(List.mem_filter.1 hq').2
 rw [form x hx,form y hy]
 congr 1
 apply List.filter_congr
 intro q hq;exact xzys h (by have:=List.mem_range.1 hq;omega)
end
section
open Go.RowKit
theorem xzty (f:Nat->Bool)(p:Nat):putV (rowP f) (0+p / 64) (rowP (plus f p) (p / 64))=rowP (plus f p):=by
 funext i;unfold putV
 by_cases h:i=0+p / 64
 ·subst h;rw [if_pos rfl,Nat.zero_add]
 ·rw [if_neg h];unfold rowP;rw [xzja f (by omega)]
theorem xztz (l:List Int)(j:Nat)(h:j<l.length)(p:Nat)(hp:l[j]=(p:Int)):setOf (l.take (j+1))=plus (setOf (l.take j)) p:=by
 funext q
 unfold setOf plus;rw [xzpj l j h q,hp]
 congr 1
 rw [Bool.eq_iff_iff];simp only [beq_iff_eq,decide_eq_true_eq];omega
set_option maxRecDepth 20000 in
set_option maxHeartbeats 4000000 in
theorem xzyt (l:List Int)(v:Value)(w:World)(hv:IntsV w l v)(hin:∀ p∈l,0<=p/\p<2048):
 Calls Tryz.prog 83 #[v] w fun e w'=>e=.returned (.agg (rowA (setOf l)))/\Below w.heap.size w w':=by
 have z:=zeroRw;obtain⟨Av,cv,rfl,hc,hs⟩:=hv;have HS:=zd hs;have HIN:=zd (fun(j:Nat) (h:j<l.length)=>hin _ (List.getElem_mem h));obtain⟨Wa,hWa⟩:∃ Wa,(w.alloc (.cells (rowA fun _=>false) 127))=Wa:=⟨_,rfl⟩;obtain⟨Wb,hWb⟩:∃ Wb,(Wa.alloc (.cells (rowA fun _=>false) 127))=Wb:=⟨_,rfl⟩
 have hsz:Wa.heap.size=w.heap.size+1:=by rw [<-hWa];simp
 have hr:BlkF Wb w.heap.size 127 32 (rowP fun _=>false):=by rw [<-hWb,<-hWa];exact BlkIs.alloc (newF w _ _) _
 have hl:BlkF Wb (w.heap.size+1) 127 32 (rowP (setOf (l.take 0))):=by rw [<-hWb,<-hsz];exact newF Wa _ _
 have hbb:Below w.heap.size w Wb:=by rw [<-hWb,<-hWa];exact((Below.refl _ _).alloc (Nat.le_refl _) _).alloc (by simp) _
 have HB:=zd (And.intro hr (And.intro hl hbb));clear hr hl hbb hs hin
 go_enter Tryz.func83,Tryz.ntmps83
 go_wp2
 go_loopw [5,8] (fun _ i wr=>∃ k:Nat,i=.int .i64 k/\k<=l.length/\Hid (BlkF wr w.heap.size 127 32 (rowP fun _=>false)/\BlkF wr (w.heap.size+1) 127 32 (rowP (setOf (l.take k)))/\Below w.heap.size w wr)) (fun _ i _=>l.length - (intOf i).toNat)
 case atStart=>exact⟨0,rfl,Nat.zero_le _,HB⟩
 case round=>
  obtain⟨k,rfl,hk,HH⟩:=hrel
  by_cases hp:k<l.length
  ·have hk1:IntKind.i64.wrap ((k:Int)+1)=((k+1:Nat):Int):=by rw [IntKind.wrap_i64];omega
   have hdl:decide ((k:Int)<(l.length:Int))=true:=by simp;omega
   obtain⟨b,o,rfl,hlt,hg⟩:=HS.out (by intro e;subst e;simp at hp);have hcell:=(HH.out.2.2.cell (p:=⟨b,o+k,none⟩) hlt).trans (hg k hp);obtain⟨p,hpe⟩:=Int.eq_ofNat_of_zero_le (HIN.out k hp).1
   have hpl:p<2048:=by have:=(HIN.out k hp).2;omega
   have hsu:=xztz l k hp p hpe;rw [hpe]at hcell;have HA:=zd (xzhd (w.heap.size+1) 0 32 127 _ (setOf (l.take k)) p wr HH.out.2.1 (xzbm _) hpl);rw [xzty,<-hsu]at HA;clear hg hpe hsu
   go_wp2_with fail
   go_at_call 103
   refine HA.out.mono ?_;rintro e u ⟨rfl,hb,hw⟩;have HN:=zd (show BlkF u w.heap.size 127 32 (rowP fun _=>false)/\BlkF u (w.heap.size+1) 127 32 (rowP (setOf (l.take (k+1))))/\Below w.heap.size w u from⟨hw.blk (by omega) HH.out.1,hb,hw.2.1 _ _ (by omega) HH.out.2.2⟩);clear hb hw;go_wp2;exact⟨⟨k+1,rfl,hp,HN⟩,by simp [intOf];omega⟩
  ·have hdl:decide ((k:Int)<(l.length:Int))=false:=by simp;omega
   obtain rfl:k=l.length:=by omega
   rw [List.take_length]at HH;have HRO:=zd (BlkF.row HH.out.2.1 (xzbm _))
   go_wp2_with(first
    |(refine xzcc rfl _ rfl rfl HRO.out ?_)
    |(refine xzam rfl 127 _ _ rfl rfl rfl HH.out.1 (by rw [xzav,xzax]) (by rw [xzav];exact infoRw) (xzff _) ?_;intro w9 hb9 hw9))
   have hl9:(loadVar 127 ⟨w.heap.size,0,none⟩).run Tryz.prog w9=.ok (.agg (rowA (setOf l))) w9:=loadVarRw (BlkF.row (t:=127) (N:=32) (F:=rowP (setOf l)) hb9 (xzbm _));exact⟨rfl,_,xzae rfl rfl hl9,⟨rfl,hw9.2.1 _ _ (Nat.le_refl _) HH.out.2.2⟩⟩
def takesTo (N:Nf)(b n:Nat):Nat->Bool:=fun p=>decide (p<n)&&N.setAt p b
theorem xzqz (N:Nf)(b n:Nat)(h:N.setAt n b=true):takesTo N b (n+1)=plus (takesTo N b n) n:=by
 funext q;unfold takesTo plus
 by_cases e:q=n
 ·subst e;simp [h]
 ·have:decide (q<n+1)=decide (q<n):=by rw [Bool.eq_iff_iff];simp;omega
  rw [this,decide_eq_false e,Bool.or_false]
theorem xzua (N:Nf)(b n:Nat)(h:N.setAt n b=false):takesTo N b (n+1)=takesTo N b n:=by
 funext q;unfold takesTo
 by_cases e:q=n
 ·subst e;simp [h]
 ·have:decide (q<n+1)=decide (q<n):=by rw [Bool.eq_iff_iff];simp;omega
  rw [this]
set_option maxRecDepth 20000 in
set_option maxHeartbeats 4000000 in
theorem xzub (N:Nf)(b:Nat)(hb:b<256)(g:Nat)(v0:Value)(w:World)(hc:w.cell? ⟨g,259,none⟩=some v0)(hs:SetsV w N.sets v0)(hn:N.sets.length<=2000):
 Calls Tryz.prog 84 #[.pointer (some ⟨g,0,none⟩),.int .u8 b] w fun e w'=>e=.returned (.agg (rowA (takesTo N b N.sets.length)))/\Below w.heap.size w w':=by
 have z:=zeroRw;obtain⟨Av,cv,rfl,hcc,hs⟩:=hs;have hgl:g<w.heap.size:=World.block_lt_of_cell? w ⟨g,259,none⟩ hc;obtain⟨Wa,hWa⟩:∃ Wa,(w.alloc (.cells (rowA fun _=>false) 127))=Wa:=⟨_,rfl⟩;obtain⟨Wb,hWb⟩:∃ Wb,(Wa.alloc (.cells (rowA fun _=>false) 127))=Wb:=⟨_,rfl⟩
 have hsz:Wa.heap.size=w.heap.size+1:=by rw [<-hWa];simp
 have hr:BlkF Wb w.heap.size 127 32 (rowP fun _=>false):=by rw [<-hWb,<-hWa];exact BlkIs.alloc (newF w _ _) _
 have hl:BlkF Wb (w.heap.size+1) 127 32 (rowP (takesTo N b 0)):=by
  rw [<-hWb,<-hsz,show takesTo N b 0=fun _=>false by funext q;unfold takesTo;simp];exact newF Wa _ _
 have hbb:Below w.heap.size w Wb:=by rw [<-hWb,<-hWa];exact((Below.refl _ _).alloc (Nat.le_refl _) _).alloc (by simp) _
 have hcb:=(hbb.cell (p:=⟨g,259,none⟩) hgl).trans hc;have HB:=zd (And.intro hr (And.intro hl hbb))
 have HS:=zd (fun(pn:Nat) (h:pn<N.sets.length)=>(show ∃ b o,Av=some ⟨b,o,none⟩/\∀ u:World,Below w.heap.size w u->u.cell? ⟨b,o+pn*4,none⟩=some (.int .u64 (wd (N.setAt pn) 0:Nat))/\u.cell? ⟨b,o+pn*4+1,none⟩=some (.int .u64 (wd (N.setAt pn) 1:Nat))/\u.cell? ⟨b,o+pn*4+2,none⟩=some (.int .u64 (wd (N.setAt pn) 2:Nat))/\u.cell? ⟨b,o+pn*4+3,none⟩=some (.int .u64 (wd (N.setAt pn) 3:Nat))by
  obtain⟨b,o,e1,l1,g1⟩:=hs (by intro e;rw [e]at h;simp at h)
  have es:N.setAt pn=N.sets[pn]:=by unfold Nf.setAt;simp [h]
  rw [es]
  exact⟨b,o,e1,fun u hu=>⟨(hu.cell (p:=⟨b,o+pn*4,none⟩) l1).trans (g1 pn h 0 (by decide)),(hu.cell (p:=⟨b,o+pn*4+1,none⟩) l1).trans (g1 pn h 1 (by decide)),(hu.cell (p:=⟨b,o+pn*4+2,none⟩) l1).trans (g1 pn h 2 (by decide)),(hu.cell (p:=⟨b,o+pn*4+3,none⟩) l1).trans (g1 pn h 3 (by decide))⟩⟩))
 have HHAS:=zd (fun(m:Nat->Bool) (u:World)=>has_any m b hb u);unfold setV at HHAS;clear hr hl hbb hs hc
 go_enter Tryz.func84,Tryz.ntmps84
 go_wp2
 go_loopw [6,7,14] (fun _ _ i wr=>∃ k:Nat,i=.int .i64 k/\k<=N.sets.length/\Hid (BlkF wr w.heap.size 127 32 (rowP fun _=>false)/\BlkF wr (w.heap.size+1) 127 32 (rowP (takesTo N b k))/\Below w.heap.size w wr)) (fun _ _ i _=>N.sets.length - (intOf i).toNat)
 case atStart=>exact⟨0,rfl,Nat.zero_le _,HB⟩
 case round=>
  obtain⟨k,rfl,hk,HH⟩:=hrel
  by_cases hp:k<N.sets.length
  ·have hk1:IntKind.i64.wrap ((k:Int)+1)=((k+1:Nat):Int):=by rw [IntKind.wrap_i64];omega
   have hdl:decide ((k:Int)<(N.sets.length:Int))=true:=by simp;omega
   obtain⟨bs,o,rfl,hcl⟩:=HS.out k hp;obtain⟨s0,s1,s2,s3⟩:=hcl wr HH.out.2.2;have HHB:=zd (HHAS.out (N.setAt k));have hyes:=xzqz N b k;have hno:=xzua N b k;clear hcl;have hwr9:w.heap.size<wr.heap.size/\w.heap.size+1<wr.heap.size:=⟨BlkIs.lt HH.out.1,BlkIs.lt HH.out.2.1⟩;have HBX:=zd ((Below.refl wr.heap.size wr).alloc (Nat.le_refl _) (.cells #[.int .u64 (wd (N.setAt k) 0:Nat),.int .u64 (wd (N.setAt k) 1:Nat),.int .u64 (wd (N.setAt k) 2:Nat),.int .u64 (wd (N.setAt k) 3:Nat)] 48));generalize hst:N.setAt k=st at*
   cases hbt:st b with
   |true=>
    rw [hbt]at hyes HHB;have hye:=zd (hyes rfl);clear hyes hno hbt HS HHAS
    go_wp2_with fail
    go_at_call 104
    refine(HHB.out _).mono ?_;rintro e u ⟨rfl,hbu⟩;have hbu2:=HBX.out.trans (hbu.mono HBX.out.size);have HH2:=zd (show BlkF u w.heap.size 127 32 (rowP fun _=>false)/\BlkF u (w.heap.size+1) 127 32 (rowP (takesTo N b k))/\Below w.heap.size w u from⟨BlkIs.step HH.out.1 hbu2,BlkIs.step HH.out.2.1 hbu2,HH.out.2.2.trans (hbu2.mono HH.out.2.2.size)⟩);have HA:=zd (xzhd (w.heap.size+1) 0 32 127 _ (takesTo N b k) k u HH2.out.2.1 (xzbm _) (by omega));rw [xzty,<-hye.out]at HA;clear hbu hbu2 s0 s1 s2 s3
    go_wp2_with fail
    go_at_call 103
    refine HA.out.mono ?_;rintro e u2 ⟨rfl,hb,hw⟩;have HN:=zd (show BlkF u2 w.heap.size 127 32 (rowP fun _=>false)/\BlkF u2 (w.heap.size+1) 127 32 (rowP (takesTo N b (k+1)))/\Below w.heap.size w u2 from⟨hw.blk (by omega) HH2.out.1,hb,hw.2.1 _ _ (by omega) HH2.out.2.2⟩);clear hb hw;go_wp2;exact⟨⟨k+1,rfl,hp,HN⟩,by simp [intOf];omega⟩
   |false=>
    rw [hbt]at hno HHB;have hne:=zd (hno rfl);clear hyes hno hbt HS HHAS
    go_wp2_with fail
    go_at_call 104
    refine(HHB.out _).mono ?_;rintro e u ⟨rfl,hbu⟩;have hbu2:=HBX.out.trans (hbu.mono HBX.out.size);have HN:=zd (show BlkF u w.heap.size 127 32 (rowP fun _=>false)/\BlkF u (w.heap.size+1) 127 32 (rowP (takesTo N b (k+1)))/\Below w.heap.size w u from⟨BlkIs.step HH.out.1 hbu2,by rw [hne.out];exact BlkIs.step HH.out.2.1 hbu2,HH.out.2.2.trans (hbu2.mono HH.out.2.2.size)⟩);clear hbu hbu2 s0 s1 s2 s3;go_wp2;exact⟨⟨k+1,rfl,hp,HN⟩,by simp [intOf];omega⟩
  ·have hdl:decide ((k:Int)<(N.sets.length:Int))=false:=by simp;omega
   obtain rfl:k=N.sets.length:=by omega
   have HRO:=zd (BlkF.row HH.out.2.1 (xzbm _))
   go_wp2_with(first
    |(refine xzcc rfl _ rfl rfl HRO.out ?_)
    |(refine xzam rfl 127 _ _ rfl rfl rfl HH.out.1 (by rw [xzav,xzax]) (by rw [xzav];exact infoRw) (xzff _) ?_;intro w9 hb9 hw9))
   have hl9:(loadVar 127 ⟨w.heap.size,0,none⟩).run Tryz.prog w9=.ok (.agg (rowA (takesTo N b N.sets.length))) w9:=loadVarRw (BlkF.row (t:=127) (N:=32) (F:=rowP (takesTo N b N.sets.length)) hb9 (xzbm _));exact⟨rfl,_,xzae rfl rfl hl9,⟨rfl,hw9.2.1 _ _ (Nat.le_refl _) HH.out.2.2⟩⟩
end
section
open Go.RowKit
def textF (f:Nat->Bool)(n:Nat):Nat->Value:=fun i=>if i<n then .int .u8 (textB f i:Nat)else .int .u8 0
theorem xzyu (f:Nat->Bool)(n:Nat):putV (textF f n) n (.int .u8 (textB f n:Nat))=textF f (n+1):=by
 funext i;unfold putV textF
 by_cases h:i=n
 ·subst h;rw [if_pos rfl,if_pos (by omega)]
 ·rw [if_neg h]
  by_cases h2:i<n
  ·rw [if_pos h2,if_pos (by omega)]
  ·rw [if_neg h2,if_neg (by omega)]
theorem zeroTx (w:World):(zeroValue 22).run Tryz.prog w=.ok (.agg (cellsN 256 fun _=>.int .u8 0)) w:=
 (zero_of_info (P:=Tryz.prog) (t:=22) (v:=.agg (cellsN 256 fun _=>.int .u8 0)) (n:=256) (by kernel_rfl)).1 w
theorem xzuc (f:Nat->Bool):(fun _=>Value.int .u8 0)=textF f 0:=by
 funext i;unfold textF;rw [if_neg (by omega)]
theorem yzdv (f:Nat->Bool)(k j:Nat)(hj:j<8):IntKind.u8.wrap (((wd f k:Nat):Int) / 2^(8*j))=(textB f (k*8+j):Nat):=by
 have e:(((wd f k:Nat):Int) / 2^(8*j))=((wd f k>>>(8*j):Nat):Int):=by
  rw [Nat.shiftRight_eq_div_pow,Int.natCast_ediv,Int.natCast_pow];rfl
 unfold textB;rw [e,IntKind.wrap_u8,show(k*8+j) / 8=k by omega,show(k*8+j)%8=j by omega];omega
theorem xzyv (f:Nat->Bool)(W:World)(g:Nat)(h:BlkF W g 22 256 (textF f 256)):(convert 71 9 (.slice (some ⟨g,0,none⟩) 256 256)).run Tryz.prog W=.ok (.string (textR f)) W:=by
 have hl:((List.range 256).map fun i=>UInt8.ofNat (textB f i)).length=256:=by simp
 have:=run_convert_bytes_back (P:=Tryz.prog) W 71 9 5 ⟨g,0,none⟩ 256 ((List.range 256).map fun i=>UInt8.ofNat (textB f i)) Tryz.underlying71 Tryz.underlying5 Tryz.underlying9 (fun j hj=>by
  rw [hl]at hj;rw [Addr.add_lit,Nat.zero_add,h.cell hj];unfold textF;rw [if_pos hj];simp only [List.getElem_map,List.getElem_range,UInt8.toNat_ofNat']
  rw [Nat.mod_eq_of_lt (xzne f j)])
 rw [hl]at this;exact this
set_option maxRecDepth 20000 in
set_option maxHeartbeats 4000000 in
theorem xzjb (g o:Nat)(f:Nat->Bool)(w:World)(hr:RowAt w g o f):
 Calls Tryz.prog 109 #[.pointer (some ⟨g,o,none⟩)] w fun e w'=>e=.returned (.string (textR f))/\Below w.heap.size w w':=by
 have z:=zeroTx;obtain⟨Wa,hWa⟩:∃ Wa,(w.alloc (.cells (cellsN 256 fun _=>.int .u8 0) 22))=Wa:=⟨_,rfl⟩
 have hbb:Below w.heap.size w Wa:=by rw [<-hWa];exact(Below.refl _ _).alloc (Nat.le_refl _) _
 have hra:=hr.step hbb
 have hl:BlkF Wa w.heap.size 22 256 (textF f 0):=by rw [<-hWa,<-xzuc];exact BlkIs.new w _ _
 have HR:=zd hra;have HB:=zd (And.intro hl hbb);clear hr hra hl hbb
 go_enter Tryz.func109,Tryz.ntmps109
 go_wp2_with(refine xzdu rfl _ rfl rfl HR.out ?_)
 go_loopw [4,5,6,11,15] (fun _ _ _ i _ wr=>∃ k:Nat,i=.int .i64 k/\k<=32/\Hid (BlkF wr w.heap.size 22 256 (textF f (k*8))/\Below w.heap.size w wr)) (fun _ _ _ i _ _=>32 - (intOf i).toNat)
 case atStart=>exact⟨0,rfl,by decide,HB⟩
 case round=>
  obtain⟨k,rfl,hk,HH⟩:=hrel
  by_cases hp:k<32
  ·have hk1:IntKind.i64.wrap ((k:Int)+1)=((k+1:Nat):Int):=by rw [IntKind.wrap_i64];omega
   have hdl:decide ((k:Int)<32)=true:=by simp;omega
   have hix:=fun u=>idxRw f hp u
   unfold rowP at hix;go_wp2
   go_loopw [6,15] (fun _ i wz=>∃ j:Nat,i=.int .i64 j/\j<=8/\Hid (BlkF wz w.heap.size 22 256 (textF f (k*8+j))/\Below w.heap.size w wz)) (fun _ i _=>8 - (intOf i).toNat)
   case atStart=>exact⟨0,rfl,by decide,HH⟩
   case round=>
    obtain⟨j,rfl,hj,HJ⟩:=hrel
    by_cases hq:j<8
    ·have hk2:IntKind.i64.wrap ((j:Int)+1)=((j+1:Nat):Int):=by rw [IntKind.wrap_i64];omega
     have hk3:IntKind.i64.wrap ((k:Int)*8)=((k*8:Nat):Int):=by rw [IntKind.wrap_i64];omega
     have hk4:IntKind.i64.wrap (((k*8:Nat):Int)+(j:Int))=((k*8+j:Nat):Int):=by rw [IntKind.wrap_i64];omega
     have hk5:IntKind.i64.wrap (8*(j:Int))=((8*j:Nat):Int):=by rw [IntKind.wrap_i64];omega
     have hdq:decide ((j:Int)<8)=true:=by simp;omega
     have hc:=BlkF.cell HJ.out.1 (i:=k*8+j) (by omega);have hfz:=BlkIs.frozen HJ.out.1 (k*8+j);have hv:=yzdv f k j hq
     have hin:k*8+j<256:=by omega
     have HN:=zd (show BlkF (wr.setCell ⟨w.heap.size,k*8+j,none⟩ (.int .u8 (textB f (k*8+j):Nat))) w.heap.size 22 256 (textF f (k*8+(j+1)))/\Below w.heap.size w (wr.setCell ⟨w.heap.size,k*8+j,none⟩ (.int .u8 (textB f (k*8+j):Nat)))from⟨by rw [<-Nat.add_assoc,<-xzyu];exact HJ.out.1.put _ _,HJ.out.2.setCell (p:=⟨w.heap.size,k*8+j,none⟩) (Nat.le_refl _) _⟩);go_wp2;exact⟨⟨j+1,rfl,hq,HN⟩,by simp [intOf];omega⟩
    ·have hdq:decide ((j:Int)<8)=false:=by simp;omega
     obtain rfl:j=8:=by omega
     go_wp2;exact⟨⟨k+1,rfl,hp,by rw [show(k+1)*8=k*8+8 by omega];exact HJ⟩,by simp [intOf];omega⟩
  ·have hdl:decide ((k:Int)<32)=false:=by simp;omega
   obtain rfl:k=32:=by omega
   have hcv:=xzyv f wr w.heap.size HH.out.1;go_wp2;go_ret;exact⟨rfl,HH.out.2⟩
end
section
open Go.RowKit
theorem xzau {W W':World}{B:Nat}{t:TypeId}{z n:Nat}{v:Value}{xs:List Value}(h:W.ownsRow B t z v n xs)(hk:∀ k,v.ownBlock=some k->W'.heap[k]? =W.heap[k]?):W'.ownsRow B t z v n xs:=by
 refine⟨h.1,h.2.imp id ?_⟩;rintro⟨g,cap,cur,rfl,h1,h2,h3⟩;exact⟨g,cap,cur,rfl,h1,(hk g rfl).trans h2,h3⟩
def Tn (o:Option Nat)(u u':World):Prop:=u.heap.size<=u'.heap.size/\(∀ k,k<u.heap.size->o≠some k->u'.heap[k]? =u.heap[k]?)/\(∀ (B:Nat) (W0:World),B<=u.heap.size->(∀ k,o=some k->B<=k)->Below B W0 u->Below B W0 u')
theorem Tn.refl (o:Option Nat)(u:World):Tn o u u:=⟨Nat.le_refl _,fun _ _ _=>rfl,fun _ _ _ _ h=>h⟩
theorem Tn.trans {o:Option Nat}{u v w:World}(h:Tn o u v)(h':Tn o v w):Tn o u w:=
 ⟨Nat.le_trans h.1 h'.1,fun k hk ho=>(h'.2.1 k (Nat.lt_of_lt_of_le hk h.1) ho).trans (h.2.1 k hk ho),fun B W0 hB ho hb=>h'.2.2 B W0 (Nat.le_trans hB h.1) ho (h.2.2 B W0 hB ho hb)⟩
theorem Tn.below {o:Option Nat}{u u':World}(h:Below u.heap.size u u'):Tn o u u':=
 ⟨h.size,fun k hk _=>h.block k hk,fun _ _ hB _ hb=>hb.trans (h.mono hB)⟩
theorem Tn.grown {o:Option Nat}{u u':World}(h:u.grownBy u' o):Tn o u u':=
 ⟨h.size,fun k hk ho=>h.block k hk (fun e=>ho e.symm),fun _ _ hB ho hb=>hb.grown h hB ho⟩
theorem Tn.wrote {g:Nat}{u u':World}(h:Wrote g u u'):Tn (some g) u u':=
 ⟨Nat.le_of_eq h.2.2.symm,fun k _ ho=>h.1 k (fun e=>ho (by rw [e])),fun B W0 _ ho hb=>h.2.1 B W0 (ho g rfl) hb⟩
def rowsC (l:List (Nat->Bool)):List Value:=l.flatMap fun f=>(rowA f).toList
theorem xzyw (a b:List (Nat->Bool)):rowsC (a++b)=rowsC a++rowsC b:=by simp [rowsC]
theorem xzpm (l:List (Nat->Bool)):∀ u∈rowsC l,u.oneCell'=true:=by
 intro u hu;obtain⟨f,_,h⟩:=List.mem_flatMap.1 hu;have:=xzff f;rw [Array.all_eq_true_iff_forall_mem]at this;exact this u (Array.mem_toList_iff.1 h)
theorem xzpn:∀ (l:List (Nat->Bool)) (i:Nat) (h:i<l.length) (k:Nat),k<32->(rowsC l)[i*32+k]? =some (rowP l[i] k)
 |f::r,0,_,k,hk=>by
  simp only [rowsC,List.flatMap_cons,Nat.zero_mul,Nat.zero_add,List.getElem_cons_zero];rw [List.getElem?_append_left (by rw [Array.length_toList,xzav];exact hk),Array.getElem?_toList,xzfe f hk]
 |f::r,i+1,h,k,hk=>by
  have hl:(rowA f).toList.length=32:=by rw [Array.length_toList,xzav]
  have:=xzpn r i (by simpa using h) k hk;simp only [rowsC,List.flatMap_cons,List.getElem_cons_succ]at this ⊢;rw [List.getElem?_append_right (by rw [hl];omega),hl,show(i+1)*32+k - 32=i*32+k by omega];exact this
def RowsP (B:Nat)(W:World)(v:Value)(l:List (Nat->Bool)):Prop:=W.ownsRow B 127 32 v l.length (rowsC l)
theorem RowsP.nil (B:Nat)(W:World):RowsP B W (.slice none 0 0) []:=World.ownsRow_nil _ _ _ _
theorem RowsP.heap {B:Nat}{W W':World}{v:Value}{l:List (Nat->Bool)}(h:RowsP B W v l)(hk:∀ k,v.ownBlock=some k->W'.heap[k]? =W.heap[k]?):RowsP B W' v l:=xzau h hk
theorem RowsP.form {B:Nat}{W:World}{v:Value}{l:List (Nat->Bool)}(h:RowsP B W v l):∃ A c,v=.slice A l.length c/\(l.length<=c/\c<=9223372036854775807):=by
 rcases h.2 with⟨rfl,h0⟩|⟨g,cap,cur,rfl,_,_,h1,h2,_⟩
 ·exact⟨none,0,by rw [h0],by omega,by omega⟩
 ·exact⟨_,cap,rfl,h1,by unfold maxLen at h2;omega⟩
theorem RowsP.at {B:Nat}{W:World}{v:Value}{l:List (Nat->Bool)}(h:RowsP B W v l)(i:Nat)(hi:i<l.length):∃ b c,v=.slice (some ⟨b,0,none⟩) l.length c/\v.ownBlock=some b/\b<W.heap.size/\RowAt W b (i*32) l[i]:=by
 rcases h.2 with⟨rfl,h0⟩|⟨g,cap,cur,rfl,h1,h2,h3⟩
 ·omega
 ·refine⟨g,cap,rfl,rfl,(Array.getElem?_eq_some_iff.1 h2).1,fun k hk=>?_⟩
  have:=World.ownsRow.cells (g:=g) h rfl (i*32+k) _ (xzpn l i hi k hk);rw [Addr.add_lit,Nat.zero_add]at this;exact this
theorem xzyx:(Tryz.prog.info? 127).map (fun i=>(i.zero,i.size,i.bytes))=some (some (.agg (rowA fun _=>false)),32,256):=by kernel_rfl
theorem xzcd {P:Program}{w w':World}{base:Nat}{t ty e:TypeId}{i:TypeInfo}{z:Value}{size bytes:Nat}(ht:P.underlying t=some (.slice e))(hi:P.info? e=some i)(hz:i.zero=some z)
 (hsize:i.size=size)(hby:i.bytes=bytes){v v':Value}{n:Nat}{xs:List Value}(hown:w.ownsRow base e size v n xs)
 {a:Addr} {m c:Nat} {news:List Value} (hl:news.length=m*size) (hnews:∀ j u,news[j]? =some u->w.cell? (a.add j)=some u) (h1:∀ u∈news,u.oneCell'=true)
 (h63:n+m<=maxLen)(hbytes:(n+m)*bytes<=140737488355328)(hr:(Builtin.append_ #[t,t] ty #[v,.slice (some a) m c]).run P w=.ok v' w'):w'.ownsRow base e size v n xs:=by
 subst hsize
 subst hby
 rcases hown.2 with⟨rfl,rfl⟩|⟨g,cap,cur,rfl,hbg,hg,hnc,hcm,hcs,htake⟩
 ·have hx:xs=[]:=List.eq_nil_of_length_eq_zero (by simpa using hown.1)
  subst hx;exact World.ownsRow_nil _ _ _ _
 ·by_cases hroom:n+m<=cap
  ·have h2:=run_append_room (P:=P) w t ty e i ht hi g n cap cur hg a m c news hl hnews h1 hroom (by rw [hl,hcs,<-Nat.add_mul];exact Nat.mul_le_mul_right _ hroom)
   rw [h2]at hr
   injection hr with _ hr
   subst hr;have hx:xs.length=n*i.size:=hown.1
   have hcl:n*i.size<=cur.toList.length:=by rw [Array.length_toList,hcs];exact Nat.mul_le_mul_right _ hnc
   have hfit:n*i.size+news.length<=cur.toList.length:=by rw [hl,<-Nat.add_mul,Array.length_toList,hcs];exact Nat.mul_le_mul_right _ hroom
   refine⟨hown.1,.inr ⟨g,cap,_,rfl,hbg,setRow_heap w g cur _ e _ hg,hnc,hcm,?_,?_⟩⟩
   ·simp only [List.size_toArray,List.length_append,List.length_take,List.length_drop]
    rw [<-hcs,<-Array.length_toList];omega
   ·show(cur.toList.take (n*i.size)++news++_).take (n*i.size)=xs
    rw [htake,List.append_assoc,<-hx];exact List.take_left
  ·have holds:∀ j u,xs[j]? =some u->w.cell? ((⟨g,0,none⟩:Addr).add j)=some u:=hown.cells (g:=g) rfl
   have h2:=run_append_grow (P:=P) w t ty e i z ht hi hz ⟨g,0,none⟩ n cap xs hown.1 holds a m c news hl hnews (by omega) (by unfold maxLen at h63;omega) (growslice_fits (by omega) hbytes);rw [h2]at hr
   injection hr with _ hr
   subst hr
   exact xzau hown fun k hk=>Below.heap_alloc w.drew _ k (by have:=(World.ownsRow.lt hown k hk).2;exact this)
theorem xzfg {B:Nat}{W:World}{v:Value}{l:List (Nat->Bool)}(hown:RowsP B W v l){f:Nat->Bool}{b c:Nat}(hnew:RowAt W b 0 f)(hl:l.length+1<=1073741824)(hB:B<=W.heap.size):
 ∃ v' W',(Builtin.append_ #[123,123] 123 #[v,.slice (some ⟨b,0,none⟩) 1 c]).run Tryz.prog W=.ok v' W'/\RowsP B W' v' (l++[f])/\W.grownBy W' v.ownBlock/\RowsP B W' v l/\(v'.ownBlock=v.ownBlock\/v'.ownBlock=some W.heap.size):=by
 obtain⟨i0,hi0,hz0,hz1,hz2⟩:=info_parts xzyx
 have hnews:∀ j u,(rowA f).toList[j]? =some u->W.cell? ((⟨b,0,none⟩:Addr).add j)=some u:=fun j u hu=>by
  have hj:j<32:=by have:=(List.getElem?_eq_some_iff.1 hu).1;rw [Array.length_toList,xzav]at this;exact this
  rw [Array.getElem?_toList,xzfe f hj]at hu;rw [Addr.add_lit,hnew j hj];exact hu
 obtain⟨v',W',hr,h1,h2,_,h4⟩:=run_append_own_at (P:=Tryz.prog) (w:=W) B 123 123 127 i0 _ 32 256 Tryz.underlying123 hi0 hz0 hz1 hz2 (xzav _) (by decide) v l.length _ hown
  ⟨b,0,none⟩ 1 c (rowA f).toList (by rw [Array.length_toList,xzav]) hnews (by have:=xzpm [f];simpa [rowsC]using this) (by unfold maxLen;omega) (by omega) hB
 refine⟨v',W',hr,?_,h2,xzcd (P:=Tryz.prog) Tryz.underlying123 hi0 hz0 hz1 hz2 hown (by rw [Array.length_toList,xzav]) hnews (by have:=xzpm [f];simpa [rowsC]using this) (by unfold maxLen;omega) (by omega) hr,h4⟩;unfold RowsP;rw [xzyw,List.length_append]
 have e:rowsC [f]=(rowA f).toList:=by simp [rowsC]
 rw [e];exact h1
theorem xzbi {W W':World}{g o:Nat}(e:W'.heap[g]? =W.heap[g]?):W'.cell? ⟨g,o,none⟩=W.cell? ⟨g,o,none⟩:=by
 unfold World.cell?;simp only [e]
theorem xzlk {B:Nat}{W:World}{v:Value}{n:Nat}{xs:List Value}(hown:W.ownsRow B 26 1 v n xs){b c:Nat}{x:Value}(hnew:W.cell? ⟨b,0,none⟩=some x)(h1:x.oneCell'=true)(hl:n+1<=1073741824)(hB:B<=W.heap.size):
 ∃ v' W',(Builtin.append_ #[25,25] 25 #[v,.slice (some ⟨b,0,none⟩) 1 c]).run Tryz.prog W=.ok v' W'/\W'.ownsRow B 26 1 v' (n+1) (xs++[x])/\W.grownBy W' v.ownBlock/\W'.ownsRow B 26 1 v n xs/\(v'.ownBlock=v.ownBlock\/v'.ownBlock=some W.heap.size):=by
 obtain⟨i0,hi0,hz0,hz1,hz2⟩:=info_parts (show(Tryz.prog.info? 26).map (fun i=>(i.zero,i.size,i.bytes))=some (some (.slice none 0 0),1,24)by kernel_rfl)
 have hnw:∀ j u,[x][j]? =some u->W.cell? ((⟨b,0,none⟩:Addr).add j)=some u:=fun j u hu=>by
  cases j with
  |zero=>
   simp only [List.getElem?_cons_zero,zh]at hu;subst hu;rw [Addr.add_lit];exact hnew
  |succ j=>simp at hu
 have hone:∀ u∈[x],u.oneCell'=true:=fun u hu=>by rw [List.mem_singleton.1 hu];exact h1
 obtain⟨v',W',hr,h2,h3,_,h4⟩:=run_append_own_at (P:=Tryz.prog) (w:=W) B 25 25 26 i0 _ 1 24 Tryz.underlying25 hi0 hz0 hz1 hz2 rfl (by decide) v n xs hown
  ⟨b,0,none⟩ 1 c [x] rfl hnw hone (by unfold maxLen;omega) (by omega) hB
 exact⟨v',W',hr,h2,h3,xzcd (P:=Tryz.prog) Tryz.underlying25 hi0 hz0 hz1 hz2 hown rfl hnw hone (by unfold maxLen;omega) (by omega) hr,h4⟩
theorem xzra {B:Nat}{W:World}{v:Value}{l:List Int}(hown:RowI B W v l){b c:Nat}{x:Int}(hnew:W.cell? ⟨b,0,none⟩=some (.int .i64 x))(hl:l.length+1<=1073741824)(hB:B<=W.heap.size):
 ∃ v' W',(Builtin.append_ #[26,26] 26 #[v,.slice (some ⟨b,0,none⟩) 1 c]).run Tryz.prog W=.ok v' W'/\RowI B W' v' (l++[x])/\W.grownBy W' v.ownBlock/\(v'.ownBlock=v.ownBlock\/v'.ownBlock=some W.heap.size):=by
 obtain⟨i0,hi0,hz0,hz1,hz2⟩:=info_parts xzdi
 have hnw:∀ j u,[Value.int .i64 x][j]? =some u->W.cell? ((⟨b,0,none⟩:Addr).add j)=some u:=fun j u hu=>by
  cases j with
  |zero=>
   simp only [List.getElem?_cons_zero,zh]at hu;subst hu;rw [Addr.add_lit];exact hnew
  |succ j=>simp at hu
 obtain⟨v',W',hr,h2,h3,_,h4⟩:=run_append_own_at (P:=Tryz.prog) (w:=W) B 26 26 3 i0 _ 1 8 Tryz.underlying26 hi0 hz0 hz1 hz2 rfl (by decide) v l.length _ hown
  ⟨b,0,none⟩ 1 c [.int .i64 x] rfl hnw (fun u hu=>by rw [List.mem_singleton.1 hu];rfl) (by unfold maxLen;omega) (by omega) hB
 refine⟨v',W',hr,?_,h3,h4⟩;unfold RowI;rw [List.map_append,List.length_append];exact h2
end
end Go.Proofs.YtdjpphjpnkfeiaaGreatDoor
