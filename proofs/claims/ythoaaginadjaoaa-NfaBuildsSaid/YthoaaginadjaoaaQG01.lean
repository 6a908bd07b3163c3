/-
 WHAT IS SAID OF NO PROGRAM: a loop that is over within n rounds; sets of bytes as four words, by which byte is in. No condition.
-/
import Derived.WalkKit
import Derived.WalkSpells
import Derived.ProofKit
import Derived.Deep.MidRow
import Derived.Test.YthoaaginadjaoaaRows
import Derived.Lib.Hide
import Derived.Deep.RegionWith
namespace Go.Proofs.Ythoaaginadjaoaa
section
open Go.RowKit
theorem zq:(∀ {α:Type} {l:List α} {i:Nat},l.toArray[i]? =l[i]?)/\(∀ {α:Type} {a:α} {l:List α},(a::l)[0]? =some a)/\∀ {α:Type} {a:α} {l:List α} {i:Nat},(a::l)[i+1]? =l[i]? :=⟨List.getElem?_toArray,List.getElem?_cons_zero,List.getElem?_cons_succ⟩
theorem zr:((∀ {α:Type} {l:List α} {i:Nat},l.toArray[i]? =l[i]?)/\(∀ {α:Type} {a:α} {l:List α},(a::l)[0]? =some a)/\∀ {α:Type} {a:α} {l:List α} {i:Nat},(a::l)[i+1]? =l[i]?)/\(∀ {α β:Type} (a:α) (f:α->Option β),(some a).bind f=f a)/\(∀ {α:Type} {l:List α} {i:Nat} {a:α},l.toArray.setIfInBounds i a=(l.set i a).toArray)/\(∀ {α:Type} {x y:α} {l:List α},(x::l).set 0 y=y::l)/\∀ {α:Type} {x y:α} {l:List α} {i:Nat},(x::l).set (i+1) y=x::l.set i y:=⟨zq,Option.bind_some,List.setIfInBounds_toArray ..,List.set_cons_zero,List.set_cons_succ⟩
theorem zh {α:Type}{a b:α}:(some a=some b)=(a=b):=Option.some.injEq a b
theorem zd {p:Prop}(h:p):Hid p:=h
def Unr (P:Program)(c:Code)(Q:Exit->Act->World->Prop):Nat->Act->World->Prop
 |0,_,_=>False
 |n+1,a,w=>c.wp P (Exit.then (Unr P c Q n) Q) a w
theorem xztp {P:Program}{Q:Exit->Act->World->Prop}{a:Act}{w:World}{c:Code}{n:Nat}
 (h:∀ K:Act->World->Prop,(∀ a w,Unr P c Q n a w->K a w)->c.wp P (Exit.then K Q) a w):Unr P c Q (n+1) a w:=
 h _ (fun _ _ h=>h)
open Classical in
theorem xzly {P:Program}{Q:Exit->Act->World->Prop}{a:Act}{w:World}{c:Code}(n:Nat)(h:Unr P c Q n a w):(Code.loop c).wp P Q a w:=by
 have least:∀ n a w,Unr P c Q n a w->∃ m,Unr P c Q m a w/\∀ k,k<m-> ¬ Unr P c Q k a w:=by
  intro n
  induction n using Nat.strongRecOn with
  |_ n ih=>
   intro a w h
   by_cases hk:∃ k,k<n/\Unr P c Q k a w
   ·obtain⟨k,hlt,hu⟩:=hk
    exact ih k hlt a w hu
   ·exact⟨n,h,fun k hlt hu=>hk ⟨k,hlt,hu⟩⟩
 refine wp_loop (fun a w=>∃ n,Unr P c Q n a w) (fun a w=>if h:∃ m,Unr P c Q m a w/\∀ k,k<m-> ¬ Unr P c Q k a w then h.choose else 0) ⟨n,h⟩ ?_;intro a w hI
 have hm:∃ m,Unr P c Q m a w/\∀ k,k<m-> ¬ Unr P c Q k a w:=by obtain⟨n,hn⟩:=hI;exact least n a w hn
 have hd:=hm.choose_spec;rw [dif_pos hm];generalize hm.choose=m at hd;obtain⟨hu,_⟩:=hd
 cases m with
 |zero=>exact hu.elim
 |succ m=>
  refine Code.wp_mono (fun e a' w' q=>?_) hu
  cases e with
  |normal=>
   have q':Unr P c Q m a' w':=q;refine⟨⟨m,q'⟩,?_⟩;have hm':=least m a' w' q';rw [dif_pos hm'];have hs:=hm'.choose_spec
   rcases Nat.lt_or_ge m hm'.choose with hlt|hge
   ·exact(hs.2 m hlt q').elim
   ·exact Nat.lt_succ_of_le hge
  |_=>exact q
def wdN (f:Nat->Bool):Nat->Nat
 |0=>0
 |n+1=>wdN f n+(if f n then 2^n else 0)
theorem xztq (f:Nat->Bool):∀ n,wdN f n<2^n
 |0=>by simp [wdN]
 |n+1=>by
  have:=xztq f n
  have h2:2^(n+1)=2^n+2^n:=by rw [Nat.pow_succ];omega
  unfold wdN
  split<;>omega
theorem xzgr (f:Nat->Bool):∀ n i,(wdN f n).testBit i=(decide (i<n)&&f i)
 |0,i=>by simp [wdN]
 |n+1,i=>by
  have ih:=xzgr f n;have hlt:=xztq f n
  have e:wdN f (n+1)=2^n*(if f n then 1 else 0)+wdN f n:=by
   show wdN f n+(if f n then 2^n else 0)=_
   cases f n<;>simp [Nat.add_comm]
  rw [e,Nat.testBit_two_pow_mul_add _ hlt]
  by_cases h1:i<n
  ·have h2:i<n+1:=by omega
   rw [if_pos h1,ih]
   simp [h1,h2]
  ·rw [if_neg h1]
   by_cases h2:i=n
   ·subst h2
    cases hf:f i<;>simp
   ·have h3: ¬ i<n+1:=by omega
    have h4:i - n≠0:=by omega
    have h5:Nat.testBit 1 (i - n)=false:=by
     cases ht:Nat.testBit 1 (i - n)
     ·rfl
     ·exact absurd (Nat.testBit_one_eq_true_iff_self_eq_zero.1 ht) h4
    cases hf:f n<;>simp [h3,h5]
def wd (m:Nat->Bool)(i:Nat):Nat:=wdN (fun j=>m (64*i+j)) 64
theorem xzlz (m:Nat->Bool)(i:Nat):wd m i<18446744073709551616:=by
 have:=xztq (fun j=>m (64*i+j)) 64
 simpa [wd]using this
theorem xzbm (m:Nat->Bool)(i j:Nat):(wd m i).testBit j=(decide (j<64)&&m (64*i+j)):=xzgr _ _ _
theorem xzqp {a:Nat}{m:Nat->Bool}{i:Nat}(ha:a<18446744073709551616)(h:∀ j,j<64->a.testBit j=m (64*i+j)):a=wd m i:=by
 refine Nat.eq_of_testBit_eq fun j=>?_
 rw [xzbm]
 by_cases hj:j<64
 ·rw [h j hj];simp [hj]
 ·have:a<2^j:=Nat.lt_of_lt_of_le ha (by
   have:2^64<=2^j:=Nat.pow_le_pow_right (by decide) (by omega)
   simpa using this)
  rw [Nat.testBit_lt_two_pow this]
  simp [hj]
theorem xzce {m n:Nat->Bool}{i:Nat}(h:∀ j,j<64->m (64*i+j)=n (64*i+j)):wd m i=wd n i:=
 xzqp (xzlz _ _) fun j hj=>by rw [xzbm,h j hj];simp [hj]
theorem xzqq {m n:Nat->Bool}{i:Nat}(h:wd m i=wd n i){j:Nat}(hj:j<64):m (64*i+j)=n (64*i+j):=by
 have:=congrArg (fun x=>Nat.testBit x j) h
 simpa [xzbm,hj]using this
def memOf (a0 a1 a2 a3:Nat)(b:Nat):Bool:=
 if b<64 then a0.testBit b else if b<128 then a1.testBit (b - 64)else if b<192 then a2.testBit (b - 128)else if b<256 then a3.testBit (b - 192)else false
theorem xzqr {a0 a1 a2 a3:Nat}(h:a0<18446744073709551616):a0=wd (memOf a0 a1 a2 a3) 0:=
 xzqp h fun j hj=>by unfold memOf;rw [if_pos (by omega),show 64*0+j=j by omega]
theorem xzqs {a0 a1 a2 a3:Nat}(h:a1<18446744073709551616):a1=wd (memOf a0 a1 a2 a3) 1:=
 xzqp h fun j hj=>by unfold memOf;rw [if_neg (by omega),if_pos (by omega),show 64*1+j - 64=j by omega]
theorem xzqt {a0 a1 a2 a3:Nat}(h:a2<18446744073709551616):a2=wd (memOf a0 a1 a2 a3) 2:=
 xzqp h fun j hj=>by unfold memOf;rw [if_neg (by omega),if_neg (by omega),if_pos (by omega),show 64*2+j - 128=j by omega]
theorem xzqu {a0 a1 a2 a3:Nat}(h:a3<18446744073709551616):a3=wd (memOf a0 a1 a2 a3) 3:=
 xzqp h fun j hj=>by unfold memOf;rw [if_neg (by omega),if_neg (by omega),if_neg (by omega),if_pos (by omega),show 64*3+j - 192=j by omega]
abbrev setV (m:Nat->Bool):Value:=.agg #[.int .u64 (wd m 0:Nat),.int .u64 (wd m 1:Nat),.int .u64 (wd m 2:Nat),.int .u64 (wd m 3:Nat)]
theorem xzng {m n:Nat->Bool}(h:∀ b,b<256->m b=n b):setV m=setV n:=by
 unfold setV
 rw [xzce (m:=m) (n:=n) (i:=0) (fun j hj=>h _ (by omega)),xzce (m:=m) (n:=n) (i:=1) (fun j hj=>h _ (by omega)),
  xzce (m:=m) (n:=n) (i:=2) (fun j hj=>h _ (by omega)),xzce (m:=m) (n:=n) (i:=3) (fun j hj=>h _ (by omega))]
def setEq (m n:Nat->Bool):Bool:=wd m 0==wd n 0&&(wd m 1==wd n 1&&(wd m 2==wd n 2&&wd m 3==wd n 3))
theorem setEq_iff {m n:Nat->Bool}:setEq m n=true↔ ∀ b,b<256->m b=n b:=by
 unfold setEq;simp only [Bool.and_eq_true,beq_iff_eq]
 constructor
 ·rintro⟨h0,h1,h2,h3⟩ b hb
  have e:b=64*(b / 64)+b%64:=by omega
  have hq:b / 64=0\/b / 64=1\/b / 64=2\/b / 64=3:=by omega
  rw [e]
  rcases hq with hq|hq|hq|hq<;>rw [hq]
  ·exact xzqq h0 (by omega)
  ·exact xzqq h1 (by omega)
  ·exact xzqq h2 (by omega)
  ·exact xzqq h3 (by omega)
 ·intro h
  exact⟨xzce fun j hj=>h _ (by omega),xzce fun j hj=>h _ (by omega),xzce fun j hj=>h _ (by omega),xzce fun j hj=>h _ (by omega)⟩
theorem xzhx (m:Nat->Bool):setEq m m=true:=setEq_iff.2 fun _ _=>rfl
def sOr (m n:Nat->Bool):Nat->Bool:=fun b=>m b||n b
def sBelow (k:Int):Nat->Bool:=fun b=>decide ((b:Int)<k)
def sRange (lo hi:Int):Nat->Bool:=fun b=>decide (lo<=(b:Int))&&decide ((b:Int)<=hi)
def sOf (l:List Nat):Nat->Bool:=fun b=>decide (b∈l)
theorem xznh (m n:Nat->Bool)(i:Nat):bits .or .u64 (wd m i:Nat) (wd n i:Nat)=(wd (sOr m n) i:Nat):=by
 rw [u64_or_nat _ _ (xzlz _ _) (xzlz _ _)]
 congr 1
 refine xzqp (Nat.or_lt_two_pow (n:=64) (xzlz _ _) (xzlz _ _)) fun j hj=>?_
 rw [Nat.testBit_or,xzbm,xzbm];simp [hj,sOr]
theorem lowBits (n:Int)(i t:Nat)(ht:t<=64)(h:∀ j,j<64->(j<t↔((64*i+j:Nat):Int)<n)):2^t - 1=wd (sBelow n) i:=by
 have hp:2^t<=2^64:=Nat.pow_le_pow_right (by decide) ht;have h0:0<2^t:=Nat.two_pow_pos t
 refine xzqp (by omega) fun j hj=>?_
 rw [Nat.testBit_two_pow_sub_one];exact decide_eq_decide.2 (h j hj)
theorem xzhp {a b:Bool}(h:a=b):Ending.returned (.bool a)=.returned (.bool b):=by rw [h]
theorem belowStep {W w1:World}{g:Nat}(hb:Below W.heap.size W w1)(hg:g<W.heap.size):
 (∀ o,w1.cell? ⟨g,o,none⟩=W.cell? ⟨g,o,none⟩)/\(∀ o,w1.frozen? ⟨g,o,none⟩=W.frozen? ⟨g,o,none⟩)/\g<w1.heap.size:=
 ⟨fun o=>hb.cell (p:=⟨g,o,none⟩) hg,fun o=>hb.frozen (p:=⟨g,o,none⟩) hg,Nat.lt_of_lt_of_le hg hb.size⟩
end
section
open Go.RowKit
def BlkIs (w:World)(g:Nat)(t:TypeId)(cs:Array Value):Prop:=w.heap[g]? =some (.cells cs t (0,0))
section
variable {w W' : World} {g : Nat} {t : TypeId} {cs : Array Value}
theorem BlkIs.lt (h:BlkIs w g t cs):g<w.heap.size:=by
 rcases Nat.lt_or_ge g w.heap.size with hlt|hge
 ·exact hlt
 ·unfold BlkIs at h;rw [Array.getElem?_eq_none hge]at h;cases h
theorem BlkIs.cell (h:BlkIs w g t cs)(i:Nat):w.cell? ⟨g,i,none⟩=cs[i]? :=cell_of_row w g i cs t (0,0) h
theorem BlkIs.frozen (h:BlkIs w g t cs)(i:Nat):w.frozen? ⟨g,i,none⟩=false:=by
 unfold BlkIs at h;simp [World.frozen?,h]
theorem BlkIs.new (w:World)(t:TypeId)(cs:Array Value):BlkIs (w.alloc (.cells cs t)) w.heap.size t cs:=by
 show(w.heap.push _)[w.heap.size]? =_
 simp
theorem BlkIs.alloc (h:BlkIs w g t cs)(o:Obj):BlkIs (w.alloc o) g t cs:=(Below.heap_alloc w o g h.lt).trans h
theorem BlkIs.drew (h:BlkIs w g t cs):BlkIs w.drew g t cs:=h
theorem BlkIs.below {B:Nat}(h:BlkIs w g t cs)(hb:Below B w W')(hg:g<B):BlkIs W' g t cs:=(hb.block g hg).trans h
theorem BlkIs.step (h:BlkIs w g t cs)(hb:Below w.heap.size w W'):BlkIs W' g t cs:=h.below hb h.lt
theorem BlkIs.far (h:BlkIs w g t cs){p:Addr}(hp:g≠p.block)(u:Value):BlkIs (w.setCell p u) g t cs:=(Below.heap_setCell w p u g hp).trans h
theorem BlkIs.put (h:BlkIs w g t cs)(i:Nat)(u:Value):BlkIs (w.setCell ⟨g,i,none⟩ u) g t (cs.setIfInBounds i u):=by
 unfold BlkIs at h ⊢
 simp [World.setCell,Array.getElem?_modify,h]
theorem BlkIs.four {a b c d:Value}(h:BlkIs w g t #[a,b,c,d]):w.cell? ⟨g,0,none⟩=some a/\w.cell? ⟨g,1,none⟩=some b/\w.cell? ⟨g,2,none⟩=some c/\w.cell? ⟨g,3,none⟩=some d/\
 w.frozen? ⟨g,0,none⟩=false/\w.frozen? ⟨g,1,none⟩=false/\w.frozen? ⟨g,2,none⟩=false/\w.frozen? ⟨g,3,none⟩=false:=
 ⟨h.cell 0,h.cell 1,h.cell 2,h.cell 3,h.frozen 0,h.frozen 1,h.frozen 2,h.frozen 3⟩
theorem BlkIs.range (h:BlkIs w g t cs):w.rangeAt g 0 cs.toList:=fun j v hv=>by
 rw [Nat.zero_add,h.cell j];simpa using hv
theorem BlkIs.there (h:BlkIs w g t cs):w.there g 0 cs.size:=fun j hj=>by
 rw [Nat.zero_add,h.cell j];exact⟨by simp [hj],h.frozen j⟩
end
theorem BlkIs.sized {g:Nat}{t:TypeId}:∀ (vs:List Value) (o:Nat) (w:World) (cs:Array Value),BlkIs w g t cs->∃ cs',BlkIs (w.setCells g o vs) g t cs'/\cs'.size=cs.size
 |[],_,_,cs,h=>⟨cs,h,rfl⟩
 |v::r,o,w,cs,h=>by
  rw [World.setCells];obtain⟨cs',h1,h2⟩:=BlkIs.sized r (o+1) _ _ (h.put o v);exact⟨cs',h1,by rw [h2];simp⟩
theorem BlkIs.fill {w:World}{g:Nat}{t:TypeId}{cs new:Array Value}(h:BlkIs w g t cs)(hs:new.size=cs.size):BlkIs (w.setCells g 0 new.toList) g t new:=by
 obtain⟨cs',h1,h2⟩:=BlkIs.sized new.toList 0 w cs h;have hr:=World.rangeAt_setCells_same w g 0 new.toList (by rw [Array.length_toList,hs];exact h.there)
 have e:cs'=new:=by
  apply Array.ext (by rw [h2,hs])
  intro i hi hi';have a:=hr i new[i] (by simp [hi']);rw [Nat.zero_add,h1.cell i]at a
  simpa [hi]using a
 rw [<-e];rw [<-e]at h1;exact h1
theorem xzaf {fn:Func}{p:Tmp}{ty:TypeId}{tmps:Array Value}{P:Program}{w w':World}{a:Addr}{v:Value}(h:fn.results=#[.cell p ty])
 (hp:tmps.getD p undef=.pointer (some a))(hl:(loadVar ty a).run P w=.ok v w'):(results fn tmps).run P w=.ok v w':=by
 have hp':tmps[p]?.getD undef=.pointer (some a):=by rw [<-hp];simp
 unfold results;rw [h]
 simp [hp',asAddr,hl]
def bools (f:Nat->Bool):Array Value:=((List.range 256).map fun i=>Value.bool (f i)).toArray
theorem xzcx (f:Nat->Bool):(bools f).size=256:=by simp [bools]
theorem xzfg (f:Nat->Bool){i:Nat}(h:i<256):(bools f)[i]? =some (.bool (f i)):=by
 unfold bools;rw [List.getElem?_toArray,List.getElem?_map,List.getElem?_range h];rfl
theorem xzgs {f g:Nat->Bool}(h:∀ i,i<256->f i=g i):bools f=bools g:=by
 unfold bools;rw [List.map_congr_left (fun i hi=>by rw [h i (List.mem_range.1 hi)])]
def updS (f:Nat->Bool)(i:Nat)(v:Bool):Nat->Bool:=fun j=>if j=i then v else f j
theorem xzqv (f:Nat->Bool)(i:Nat)(v:Bool):(bools f).setIfInBounds i (.bool v)=bools (updS f i v):=by
 apply Array.ext_getElem?
 intro j
 by_cases hj:j<256
 ·rw [Array.getElem?_setIfInBounds,xzfg _ hj,xzfg _ hj,xzcx]
  unfold updS
  by_cases e:i=j
  ·subst e;simp [hj]
  ·have e': ¬ j=i:=fun h=>e h.symm
   simp [e,e']
 ·rw [Array.getElem?_eq_none (by rw [Array.size_setIfInBounds,xzcx];omega),Array.getElem?_eq_none (by rw [xzcx];omega)]
theorem xzqw (f:Nat->Bool):Value.agg (bools f).toList.toArray=.agg (bools f):=by simp
end
section
open Go.RowKit
def swar (s m u:Nat):Nat:=((u / 2^s)&&& m)+(u&&& m)
def m0:Nat->Nat|0=>0|n+1=>85+256*m0 n
def m1:Nat->Nat|0=>0|n+1=>51+256*m1 n
def m2:Nat->Nat|0=>0|n+1=>15+256*m2 n
def fold4 (m x:Nat):Nat:=(x / 16+x)&&& m
theorem eight:∀ b0 b1 b2 b3 b4 b5 b6 b7:Bool,
 (let u:=(((((((if b0 then 1 else 0)+(if b1 then 2 else 0))+(if b2 then 4 else 0))+(if b3 then 8 else 0))+(if b4 then 16 else 0))+(if b5 then 32 else 0))+(if b6 then 64 else 0))+(if b7 then 128 else 0)
  fold4 15 (swar 2 51 (swar 1 85 u))=(((((((if b0 then 1 else 0)+(if b1 then 1 else 0))+(if b2 then 1 else 0))+(if b3 then 1 else 0))+(if b4 then 1 else 0))+(if b5 then 1 else 0))+(if b6 then 1 else 0))+(if b7 then 1 else 0)/\
  swar 1 85 u<256/\swar 2 51 (swar 1 85 u)<256/\swar 2 51 (swar 1 85 u)%16<=4/\swar 2 51 (swar 1 85 u) / 16<=4):=by decide+kernel
end
section
open Go.RowKit
theorem idx_set (m:Nat->Bool)(w:World):
 (Instr.index 37 (setV m) (.int .i64 0)).run Try.prog w=.ok (.int .u64 (wd m 0:Nat)) w/\
 (Instr.index 37 (setV m) (.int .i64 1)).run Try.prog w=.ok (.int .u64 (wd m 1:Nat)) w/\
 (Instr.index 37 (setV m) (.int .i64 2)).run Try.prog w=.ok (.int .u64 (wd m 2:Nat)) w/\
 (Instr.index 37 (setV m) (.int .i64 3)).run Try.prog w=.ok (.int .u64 (wd m 3:Nat)) w:=
 ⟨by kernel_rfl,by kernel_rfl,by kernel_rfl,by kernel_rfl⟩
set_option maxHeartbeats 400000 in
theorem any_any (m n:Nat->Bool)(w:World):
 Calls Try.prog 55 #[setV m,setV n] w fun e w'=>e=.returned (setV (sOr m n))/\Below w.heap.size w w':=by
 have ix:=idx_set n
 go_enter Try.func55,Try.ntmps55
 go_wp2;refine xzly 5 ?_
 go_wp2_with(refine xztp ?_;intro _ _)
 refine bodyPost_ret (v:=setV (sOr m n)) (by simp [results,Try.results55,go_sem,xznh]) rfl ⟨rfl,?_⟩;exact(((Below.refl _ _).alloc (Nat.le_refl _) _).alloc (by simp) _).alloc (by simp;omega) _
end
end Go.Proofs.Ythoaaginadjaoaa
