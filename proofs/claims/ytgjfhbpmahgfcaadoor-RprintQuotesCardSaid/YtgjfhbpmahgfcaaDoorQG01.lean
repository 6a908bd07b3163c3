/-
 WHAT IS SAID OF NO PROGRAM: a loop that is over within n rounds; sets of bytes as four words, by which byte is in. No condition.
-/
import Derived.WalkKit
import Derived.WalkSpells
import Derived.ProofKit
namespace Go.Proofs.YtgjfhbpmahgfcaaDoor
section
open Go.RowKit
theorem zq:(∀ {α:Type} {l:List α} {i:Nat},l.toArray[i]? =l[i]?)/\(∀ {α:Type} {a:α} {l:List α},(a::l)[0]? =some a)/\∀ {α:Type} {a:α} {l:List α} {i:Nat},(a::l)[i+1]? =l[i]? :=⟨List.getElem?_toArray,List.getElem?_cons_zero,List.getElem?_cons_succ⟩
theorem zr:((∀ {α:Type} {l:List α} {i:Nat},l.toArray[i]? =l[i]?)/\(∀ {α:Type} {a:α} {l:List α},(a::l)[0]? =some a)/\∀ {α:Type} {a:α} {l:List α} {i:Nat},(a::l)[i+1]? =l[i]?)/\(∀ {α β:Type} (a:α) (f:α->Option β),(some a).bind f=f a)/\(∀ {α:Type} {l:List α} {i:Nat} {a:α},l.toArray.setIfInBounds i a=(l.set i a).toArray)/\(∀ {α:Type} {x y:α} {l:List α},(x::l).set 0 y=y::l)/\∀ {α:Type} {x y:α} {l:List α} {i:Nat},(x::l).set (i+1) y=x::l.set i y:=⟨zq,Option.bind_some,List.setIfInBounds_toArray ..,List.set_cons_zero,List.set_cons_succ⟩
theorem zh {α:Type}{a b:α}:(some a=some b)=(a=b):=Option.some.injEq a b
theorem zd {p:Prop}(h:p):Hid p:=h
def Unr (P:Program)(c:Code)(Q:Exit->Act->World->Prop):Nat->Act->World->Prop
 |0,_,_=>False
 |n+1,a,w=>c.wp P (Exit.then (Unr P c Q n) Q) a w
theorem xzae {P:Program}{Q:Exit->Act->World->Prop}{a:Act}{w:World}{c:Code}{n:Nat}
 (h:∀ K:Act->World->Prop,(∀ a w,Unr P c Q n a w->K a w)->c.wp P (Exit.then K Q) a w):Unr P c Q (n+1) a w:=
 h _ (fun _ _ h=>h)
open Classical in
theorem xzab {P:Program}{Q:Exit->Act->World->Prop}{a:Act}{w:World}{c:Code}(n:Nat)(h:Unr P c Q n a w):(Code.loop c).wp P Q a w:=by
 have least:∀ n a w,Unr P c Q n a w->∃ m,Unr P c Q m a w/\∀ k,k<m-> ¬ Unr P c Q k a w:=by
  intro n
  induction n using Nat.strongRecOn with
  |_ n ih=>
   intro a w h
   by_cases hk:∃ k,k<n/\Unr P c Q k a w
   ·obtain⟨k,hlt,hu⟩:=hk
    exact ih k hlt a w hu
   ·exact⟨n,h,fun k hlt hu=>hk ⟨k,hlt,hu⟩⟩
 refine wp_loop (fun a w=>∃ n,Unr P c Q n a w) (fun a w=>if h:∃ m,Unr P c Q m a w/\∀ k,k<m-> ¬ Unr P c Q k a w then h.choose else 0) ⟨n,h⟩ ?_;intro a w hI
 have hm:∃ m,Unr P c Q m a w/\∀ k,k<m-> ¬ Unr P c Q k a w:=by obtain⟨n,hn⟩:=hI;exact least n a w hn
 have hd:=hm.choose_spec;rw [dif_pos hm];generalize hm.choose=m at hd;obtain⟨hu,_⟩:=hd
 cases m with
 |zero=>exact hu.elim
 |succ m=>
  refine Code.wp_mono (fun e a' w' q=>?_) hu
  cases e with
  |normal=>
   have q':Unr P c Q m a' w':=q;refine⟨⟨m,q'⟩,?_⟩;have hm':=least m a' w' q';rw [dif_pos hm'];have hs:=hm'.choose_spec
   rcases Nat.lt_or_ge m hm'.choose with hlt|hge
   ·exact(hs.2 m hlt q').elim
   ·exact Nat.lt_succ_of_le hge
  |_=>exact q
def wdN (f:Nat->Bool):Nat->Nat
 |0=>0
 |n+1=>wdN f n+(if f n then 2^n else 0)
theorem xzgk (f:Nat->Bool):∀ n,wdN f n<2^n
 |0=>by simp [wdN]
 |n+1=>by
  have:=xzgk f n
  have h2:2^(n+1)=2^n+2^n:=by rw [Nat.pow_succ];omega
  unfold wdN
  split<;>omega
theorem xzcj (f:Nat->Bool):∀ n i,(wdN f n).testBit i=(decide (i<n)&&f i)
 |0,i=>by simp [wdN]
 |n+1,i=>by
  have ih:=xzcj f n;have hlt:=xzgk f n
  have e:wdN f (n+1)=2^n*(if f n then 1 else 0)+wdN f n:=by
   show wdN f n+(if f n then 2^n else 0)=_
   cases f n<;>simp [Nat.add_comm]
  rw [e,Nat.testBit_two_pow_mul_add _ hlt]
  by_cases h1:i<n
  ·have h2:i<n+1:=by omega
   rw [if_pos h1,ih]
   simp [h1,h2]
  ·rw [if_neg h1]
   by_cases h2:i=n
   ·subst h2
    cases hf:f i<;>simp
   ·have h3: ¬ i<n+1:=by omega
    have h4:i - n≠0:=by omega
    have h5:Nat.testBit 1 (i - n)=false:=by
     cases ht:Nat.testBit 1 (i - n)
     ·rfl
     ·exact absurd (Nat.testBit_one_eq_true_iff_self_eq_zero.1 ht) h4
    cases hf:f n<;>simp [h3,h5]
def wd (m:Nat->Bool)(i:Nat):Nat:=wdN (fun j=>m (64*i+j)) 64
theorem xzgj (m:Nat->Bool)(i:Nat):wd m i<18446744073709551616:=by
 have:=xzgk (fun j=>m (64*i+j)) 64
 simpa [wd]using this
theorem xzah (m:Nat->Bool)(i j:Nat):(wd m i).testBit j=(decide (j<64)&&m (64*i+j)):=xzcj _ _ _
theorem xzkn {a:Nat}{m:Nat->Bool}{i:Nat}(ha:a<18446744073709551616)(h:∀ j,j<64->a.testBit j=m (64*i+j)):a=wd m i:=by
 refine Nat.eq_of_testBit_eq fun j=>?_
 rw [xzah]
 by_cases hj:j<64
 ·rw [h j hj];simp [hj]
 ·have:a<2^j:=Nat.lt_of_lt_of_le ha (by
   have:2^64<=2^j:=Nat.pow_le_pow_right (by decide) (by omega)
   simpa using this)
  rw [Nat.testBit_lt_two_pow this]
  simp [hj]
theorem xzaq {m n:Nat->Bool}{i:Nat}(h:∀ j,j<64->m (64*i+j)=n (64*i+j)):wd m i=wd n i:=
 xzkn (xzgj _ _) fun j hj=>by rw [xzah,h j hj];simp [hj]
theorem xzig {m n:Nat->Bool}{i:Nat}(h:wd m i=wd n i){j:Nat}(hj:j<64):m (64*i+j)=n (64*i+j):=by
 have:=congrArg (fun x=>Nat.testBit x j) h
 simpa [xzah,hj]using this
abbrev setV (m:Nat->Bool):Value:=.agg #[.int .u64 (wd m 0:Nat),.int .u64 (wd m 1:Nat),.int .u64 (wd m 2:Nat),.int .u64 (wd m 3:Nat)]
theorem xzgl {m n:Nat->Bool}(h:∀ b,b<256->m b=n b):setV m=setV n:=by
 unfold setV
 rw [xzaq (m:=m) (n:=n) (i:=0) (fun j hj=>h _ (by omega)),xzaq (m:=m) (n:=n) (i:=1) (fun j hj=>h _ (by omega)),
  xzaq (m:=m) (n:=n) (i:=2) (fun j hj=>h _ (by omega)),xzaq (m:=m) (n:=n) (i:=3) (fun j hj=>h _ (by omega))]
def setEq (m n:Nat->Bool):Bool:=wd m 0==wd n 0&&(wd m 1==wd n 1&&(wd m 2==wd n 2&&wd m 3==wd n 3))
theorem setEq_iff {m n:Nat->Bool}:setEq m n=true↔ ∀ b,b<256->m b=n b:=by
 unfold setEq;simp only [Bool.and_eq_true,beq_iff_eq]
 constructor
 ·rintro⟨h0,h1,h2,h3⟩ b hb
  have e:b=64*(b / 64)+b%64:=by omega
  have hq:b / 64=0\/b / 64=1\/b / 64=2\/b / 64=3:=by omega
  rw [e]
  rcases hq with hq|hq|hq|hq<;>rw [hq]
  ·exact xzig h0 (by omega)
  ·exact xzig h1 (by omega)
  ·exact xzig h2 (by omega)
  ·exact xzig h3 (by omega)
 ·intro h
  exact⟨xzaq fun j hj=>h _ (by omega),xzaq fun j hj=>h _ (by omega),xzaq fun j hj=>h _ (by omega),xzaq fun j hj=>h _ (by omega)⟩
theorem xzgm (m:Nat->Bool):setEq m m=true:=setEq_iff.2 fun _ _=>rfl
def sOr (m n:Nat->Bool):Nat->Bool:=fun b=>m b||n b
def sLess (m n:Nat->Bool):Nat->Bool:=fun b=>m b&& !n b
def sNot (m:Nat->Bool):Nat->Bool:=fun b=> !m b
def sBelow (k:Int):Nat->Bool:=fun b=>decide ((b:Int)<k)
def sRange (lo hi:Int):Nat->Bool:=fun b=>decide (lo<=(b:Int))&&decide ((b:Int)<=hi)
theorem sub_wd (m:Nat->Bool)(i:Nat):18446744073709551615 - wd m i=wd (sNot m) i:=by
 refine xzkn (by omega) fun j hj=>?_
 have e:18446744073709551615 - wd m i=2^64 - (wd m i+1):=by have:=xzgj m i;omega
 rw [e,Nat.testBit_two_pow_sub_succ (xzgj m i),xzah]
 simp [hj,sNot]
theorem xzcu (m n:Nat->Bool)(i:Nat):bits .andNot .u64 (wd m i:Nat) (wd n i:Nat)=(wd (sLess m n) i:Nat):=by
 rw [u64_andNot_nat _ _ (xzgj _ _) (xzgj _ _),sub_wd]
 congr 1
 refine xzkn (Nat.and_lt_two_pow (n:=64) _ (xzgj _ _)) fun j hj=>?_
 rw [Nat.testBit_and,xzah,xzah];simp [hj,sLess,sNot]
theorem xzfh (m:Nat->Bool)(i:Nat):bits .xor .u64 IntKind.u64.max (wd m i:Nat)=(wd (sNot m) i:Nat):=by
 have h:=u64_xor_nat 18446744073709551615 (wd m i) (by omega) (xzgj _ _);refine h.trans ?_
 congr 1
 refine xzkn (Nat.xor_lt_two_pow (n:=64) (by decide) (xzgj _ _)) fun j hj=>?_
 have e:Nat.testBit 18446744073709551615 j=true:=by
  have:=Nat.testBit_two_pow_sub_one 64 j
  simpa [hj]using this
 rw [Nat.testBit_xor,e,xzah];simp [hj,sNot]
theorem lowBits (n:Int)(i t:Nat)(ht:t<=64)(h:∀ j,j<64->(j<t↔((64*i+j:Nat):Int)<n)):2^t - 1=wd (sBelow n) i:=by
 have hp:2^t<=2^64:=Nat.pow_le_pow_right (by decide) ht;have h0:0<2^t:=Nat.two_pow_pos t
 refine xzkn (by omega) fun j hj=>?_
 rw [Nat.testBit_two_pow_sub_one];exact decide_eq_decide.2 (h j hj)
theorem xzao (n:Int)(i:Nat)(h:64*(i:Int)+64<=n):IntKind.u64.wrap (IntKind.u64.wrap 18446744073709551616 - 1)=(wd (sBelow n) i:Int):=by
 rw [<-lowBits n i 64 (Nat.le_refl _) (fun j hj=>⟨fun _=>by omega,fun _=>hj⟩),IntKind.wrap_u64,IntKind.wrap_u64]
 decide
theorem xzay (n t:Int)(i:Nat)(ht:t=n - 64*(i:Int))(h0:0<=t)(h1:t<=64):IntKind.u64.wrap (IntKind.u64.wrap (2^t.toNat) - 1)=(wd (sBelow n) i:Int):=by
 obtain⟨k,rfl⟩:=Int.eq_ofNat_of_zero_le h0
 have hk:k<=64:=by omega
 rw [<-lowBits n i k hk (fun j hj=>by omega),Int.toNat_natCast,IntKind.wrap_u64,IntKind.wrap_u64];have hp:2^k<=2^64:=Nat.pow_le_pow_right (by decide) hk;have hp0:0<2^k:=Nat.two_pow_pos k
 have e:((2:Int)^k)=((2^k:Nat):Int):=by rw [Int.natCast_pow];rfl
 rw [e];generalize 2^k=p at*;omega
theorem xzep:IntKind.u64.wrap (IntKind.u64.wrap 1 - 1)=0:=by decide
theorem xzai (n:Int)(i:Nat)(h:n<=64*(i:Int)):(wd (sBelow n) i:Int)=0:=by
 rw [<-lowBits n i 0 (by decide) (fun j hj=>⟨fun h=>absurd h (by omega),fun h=>by omega⟩)]
 rfl
theorem ret_int {k:IntKind}{a b:Int}(h:a=b):Ending.returned (.int k a)=.returned (.int k b):=by rw [h]
theorem belowStep {W w1:World}{g:Nat}(hb:Below W.heap.size W w1)(hg:g<W.heap.size):
 (∀ o,w1.cell? ⟨g,o,none⟩=W.cell? ⟨g,o,none⟩)/\(∀ o,w1.frozen? ⟨g,o,none⟩=W.frozen? ⟨g,o,none⟩)/\g<w1.heap.size:=
 ⟨fun o=>hb.cell (p:=⟨g,o,none⟩) hg,fun o=>hb.frozen (p:=⟨g,o,none⟩) hg,Nat.lt_of_lt_of_le hg hb.size⟩
end
section
open Go.RowKit
theorem xzeb (u v p q:Nat)(hu:u<256)(hp:p<256):(u+256*v)&&& (p+256*q)=(u&&& p)+256*(v&&& q):=by
 have huv:u&&& p<2^8:=Nat.and_lt_two_pow _ hp
 refine Nat.eq_of_testBit_eq fun j=>?_
 rw [Nat.testBit_and,Nat.add_comm u,Nat.add_comm p,Nat.add_comm (u&&& p),show(256:Nat)=2^8 from rfl,
  Nat.testBit_two_pow_mul_add _ hu,Nat.testBit_two_pow_mul_add _ hp,Nat.testBit_two_pow_mul_add _ huv]
 split<;>simp [Nat.testBit_and]
def swar (s m u:Nat):Nat:=((u / 2^s)&&& m)+(u&&& m)
theorem xzeq {s m M u v:Nat}(hs:s<=8)(hm:m<256)(hu:u<256)
 (h:∀ c,c<2^s->(u / 2^s+2^(8 - s)*c)&&& m=(u / 2^s)&&& m):
 swar s (m+256*M) (u+256*v)=swar s m u+256*swar s M v:=by
 have hp:2^s*2^(8 - s)=256:=by rw [<-Nat.pow_add,show s+(8 - s)=8 by omega]
 have h0:0<2^s:=Nat.two_pow_pos s;have hc:v%2^s<2^s:=Nat.mod_lt _ h0
 have e:(u+256*v) / 2^s=(u / 2^s+2^(8 - s)*(v%2^s))+256*(v / 2^s):=by
  have e1:u+256*v=u+2^s*(2^(8 - s)*v):=by rw [<-Nat.mul_assoc,hp]
  rw [e1,Nat.add_mul_div_left _ _ h0]
  have e2:v=v%2^s+2^s*(v / 2^s):=by rw [Nat.mod_add_div]
  have e3:2^(8 - s)*v=2^(8 - s)*(v%2^s)+256*(v / 2^s):=by
   conv=>lhs;rw [e2]
   rw [Nat.mul_add,<-Nat.mul_assoc (2^(8 - s)),Nat.mul_comm (2^(8 - s)) (2^s),hp]
  omega
 have hlow:u / 2^s+2^(8 - s)*(v%2^s)<256:=by
  have h1:u / 2^s<2^(8 - s):=(Nat.div_lt_iff_lt_mul h0).2 (by rw [Nat.mul_comm,hp];exact hu);have h2:2^(8 - s)*(v%2^s)<=2^(8 - s)*(2^s - 1):=Nat.mul_le_mul_left _ (by omega)
  have h3:2^(8 - s)*(2^s - 1)+2^(8 - s)=256:=by
   have h4:2^s - 1+1=2^s:=by omega
   have h5:2^(8 - s)*(2^s - 1)+2^(8 - s)=2^(8 - s)*((2^s - 1)+1):=by rw [Nat.mul_add,Nat.mul_one]
   rw [h5,h4,Nat.mul_comm,hp]
  omega
 unfold swar;rw [e,xzeb _ _ _ _ hlow hm,xzeb _ _ _ _ hu hm,h _ hc];omega
def m0:Nat->Nat|0=>0|n+1=>85+256*m0 n
def m1:Nat->Nat|0=>0|n+1=>51+256*m1 n
def m2:Nat->Nat|0=>0|n+1=>15+256*m2 n
def ofB:List Nat->Nat|[]=>0|u::l=>u+256*ofB l
theorem lane0:∀ u,u<256->∀ c,c<2^1->(u / 2^1+2^(8 - 1)*c)&&& 85=(u / 2^1)&&& 85:=by decide+kernel
theorem lane1:∀ u,u<256->∀ c,c<2^2->(u / 2^2+2^(8 - 2)*c)&&& 51=(u / 2^2)&&& 51:=by decide+kernel
theorem swar0:∀ l:List Nat,(∀ u∈l,u<256)->swar 1 (m0 l.length) (ofB l)=ofB (l.map (swar 1 85))
 |[],_=>by simp [swar,m0,ofB]
 |u::l,h=>by
  have hu:=h u (by simp);have:=swar0 l (fun x hx=>h x (by simp [hx]));simp only [List.length_cons,m0,ofB,List.map_cons];rw [xzeq (by decide) (by decide) hu (lane0 u hu),this]
theorem swar1:∀ l:List Nat,(∀ u∈l,u<256)->swar 2 (m1 l.length) (ofB l)=ofB (l.map (swar 2 51))
 |[],_=>by simp [swar,m1,ofB]
 |u::l,h=>by
  have hu:=h u (by simp);have:=swar1 l (fun x hx=>h x (by simp [hx]));simp only [List.length_cons,m1,ofB,List.map_cons];rw [xzeq (by decide) (by decide) hu (lane1 u hu),this]
def fold4 (m x:Nat):Nat:=(x / 16+x)&&& m
def Nib (u:Nat):Prop:=u<256/\u%16<=4/\u / 16<=4
theorem xzgn:∀ u,u<256->u%16<=4->u / 16<=4->∀ c,c<5->(u / 16+16*c+u)<256/\(u / 16+16*c+u)&&& 15=(u / 16+u)&&& 15:=by decide+kernel
theorem ofB_nib:∀ l:List Nat,(∀ u∈l,Nib u)->ofB l%16<5
 |[],_=>by simp [ofB]
 |u::l,h=>by have:=(h u (by simp)).2.1;simp only [ofB];omega
theorem xzer:∀ l:List Nat,(∀ u∈l,Nib u)->fold4 (m2 l.length) (ofB l)=ofB (l.map (fold4 15))
 |[],_=>by simp [fold4,m2,ofB]
 |u::l,h=>by
  obtain⟨h1,h2,h3⟩:=h u (by simp);have ih:=xzer l (fun x hx=>h x (by simp [hx]));have hc:=ofB_nib l (fun x hx=>h x (by simp [hx]));obtain⟨h4,h5⟩:=xzgn u h1 h2 h3 _ hc
  have e:(u+256*ofB l) / 16+(u+256*ofB l)=(u / 16+16*(ofB l%16)+u)+256*(ofB l / 16+ofB l):=by omega
  simp only [List.length_cons,m2,ofB,List.map_cons,<-ih];unfold fold4;rw [e,xzeb _ _ _ _ h4 (by decide),h5]
def cntN (f:Nat->Bool):Nat->Nat
 |0=>0
 |n+1=>cntN f n+(if f n then 1 else 0)
theorem xzap (f:Nat->Bool):∀ n,cntN f n<=n
 |0=>by simp [cntN]
 |n+1=>by have:=xzap f n;unfold cntN;split<;>omega
theorem xzjx (f:Nat->Bool)(a:Nat):∀ b,wdN f (a+b)=wdN f a+2^a*wdN (fun j=>f (a+j)) b
 |0=>by simp [wdN]
 |b+1=>by
  have ih:=xzjx f a b
  show wdN f (a+b)+(if f (a+b)then 2^(a+b)else 0)=_
  rw [ih]
  show _=wdN f a+2^a*(wdN (fun j=>f (a+j)) b+(if f (a+b)then 2^b else 0))
  rw [Nat.mul_add,Nat.add_assoc]
  congr 2
  split
  ·rw [Nat.pow_add]
  ·simp
theorem xzal (f:Nat->Bool)(a:Nat):∀ b,cntN f (a+b)=cntN f a+cntN (fun j=>f (a+j)) b
 |0=>by simp [cntN]
 |b+1=>by
  have ih:=xzal f a b
  show cntN f (a+b)+(if f (a+b)then 1 else 0)=_
  rw [ih]
  show _=cntN f a+(cntN (fun j=>f (a+j)) b+(if f (a+b)then 1 else 0))
  omega
def bytesN (f:Nat->Bool):Nat->List Nat
 |0=>[]
 |k+1=>wdN f 8::bytesN (fun j=>f (8+j)) k
theorem xzgo (k:Nat):∀ f:Nat->Bool,ofB (bytesN f k)=wdN f (8*k):=by
 induction k with
 |zero=>intro f;simp [bytesN,ofB,wdN]
 |succ k ih=>
  intro f;rw [show 8*(k+1)=8+8*k by omega,xzjx];simp only [bytesN,ofB,ih]
theorem xzaz (k:Nat):∀ f:Nat->Bool,(bytesN f k).length=k:=by
 induction k with
 |zero=>intro f;rfl
 |succ k ih=>intro f;simp [bytesN,ih]
def cntsN (f:Nat->Bool):Nat->List Nat
 |0=>[]
 |k+1=>cntN f 8::cntsN (fun j=>f (8+j)) k
theorem eight:∀ b0 b1 b2 b3 b4 b5 b6 b7:Bool,
 (let u:=(((((((if b0 then 1 else 0)+(if b1 then 2 else 0))+(if b2 then 4 else 0))+(if b3 then 8 else 0))+(if b4 then 16 else 0))+(if b5 then 32 else 0))+(if b6 then 64 else 0))+(if b7 then 128 else 0)
  fold4 15 (swar 2 51 (swar 1 85 u))=(((((((if b0 then 1 else 0)+(if b1 then 1 else 0))+(if b2 then 1 else 0))+(if b3 then 1 else 0))+(if b4 then 1 else 0))+(if b5 then 1 else 0))+(if b6 then 1 else 0))+(if b7 then 1 else 0)/\
  swar 1 85 u<256/\swar 2 51 (swar 1 85 u)<256/\swar 2 51 (swar 1 85 u)%16<=4/\swar 2 51 (swar 1 85 u) / 16<=4):=by decide+kernel
theorem xzko (f:Nat->Bool):fold4 15 (swar 2 51 (swar 1 85 (wdN f 8)))=cntN f 8/\swar 1 85 (wdN f 8)<256/\Nib (swar 2 51 (swar 1 85 (wdN f 8))):=by
 have h:=eight (f 0) (f 1) (f 2) (f 3) (f 4) (f 5) (f 6) (f 7)
 have e:wdN f 8=(((((((if f 0 then 1 else 0)+(if f 1 then 2 else 0))+(if f 2 then 4 else 0))+(if f 3 then 8 else 0))+(if f 4 then 16 else 0))+(if f 5 then 32 else 0))+(if f 6 then 64 else 0))+(if f 7 then 128 else 0):=by
  simp [wdN]
 have e2:cntN f 8=(((((((if f 0 then 1 else 0)+(if f 1 then 1 else 0))+(if f 2 then 1 else 0))+(if f 3 then 1 else 0))+(if f 4 then 1 else 0))+(if f 5 then 1 else 0))+(if f 6 then 1 else 0))+(if f 7 then 1 else 0):=by
  simp [cntN]
 rw [e,e2];exact⟨h.1,h.2.1,h.2.2⟩
theorem xzkp (k:Nat):∀ f:Nat->Bool,(∀ u∈bytesN f k,u<256)/\(∀ u∈(bytesN f k).map (swar 1 85),u<256)/\(∀ u∈((bytesN f k).map (swar 1 85)).map (swar 2 51),Nib u)/\
 (((bytesN f k).map (swar 1 85)).map (swar 2 51)).map (fold4 15)=cntsN f k:=by
 induction k with
 |zero=>intro f;simp [bytesN,cntsN]
 |succ k ih=>
  intro f;obtain⟨i1,i2,i3,i4⟩:=ih (fun j=>f (8+j));obtain⟨e1,e2,e3⟩:=xzko f;have e0:wdN f 8<256:=xzgk f 8;simp only [bytesN,cntsN,List.map_cons,List.mem_cons,forall_eq_or_imp,i4,e1];exact⟨⟨e0,i1⟩,⟨e2,i2⟩,⟨e3,i3⟩,trivial⟩
theorem xzih (f:Nat->Bool)(k:Nat):fold4 (m2 k) (swar 2 (m1 k) (swar 1 (m0 k) (wdN f (8*k))))=ofB (cntsN f k):=by
 obtain⟨i1,i2,i3,i4⟩:=xzkp k f;have a:=swar0 (bytesN f k) i1;rw [xzaz,xzgo]at a;have b:=swar1 _ i2;rw [List.length_map,xzaz]at b;have c:=xzer _ i3;rw [List.length_map,List.length_map,xzaz]at c;rw [a,b,c,i4]
theorem ones_eq (f:Nat->Bool)(x x1 x2 x3:Nat)(hx:x=wdN f 64)
 (h1:x1=((x / 2)&&& 6148914691236517205)+(x&&& 6148914691236517205))
 (h2:x2=((x1 / 4)&&& 3689348814741910323)+(x1&&& 3689348814741910323))
 (h3:x3=(x2 / 16+x2)&&& 1085102592571150095):
 ∃ c0 c1 c2 c3 c4 c5 c6 c7:Nat,c0<=8/\c1<=8/\c2<=8/\c3<=8/\c4<=8/\c5<=8/\c6<=8/\c7<=8/\
  x3=c0+256*(c1+256*(c2+256*(c3+256*(c4+256*(c5+256*(c6+256*c7))))))/\cntN f 64=c0+c1+c2+c3+c4+c5+c6+c7:=by
 have h:=xzih f 8
 have e0:m0 8=6148914691236517205:=by decide+kernel
 have e1:m1 8=3689348814741910323:=by decide+kernel
 have e2:m2 8=1085102592571150095:=by decide+kernel
 rw [e0,e1,e2]at h;simp only [fold4,swar,show(8*8:Nat)=64 from rfl,<-hx,show(2:Nat)^1=2 from rfl,show(2:Nat)^2=4 from rfl]at h;rw [<-h1]at h;rw [<-h2]at h;rw [<-h3]at h
 refine⟨_,_,_,_,_,_,_,_,xzap f 8,xzap (fun j=>f (8+j)) 8,xzap (fun j=>f (8+(8+j))) 8,xzap (fun j=>f (8+(8+(8+j)))) 8,
  xzap (fun j=>f (8+(8+(8+(8+j))))) 8,xzap (fun j=>f (8+(8+(8+(8+(8+j)))))) 8,xzap (fun j=>f (8+(8+(8+(8+(8+(8+j))))))) 8,
  xzap (fun j=>f (8+(8+(8+(8+(8+(8+(8+j)))))))) 8,?_,?_⟩
 ·rw [h];simp [cntsN,ofB]
 ·rw [show(64:Nat)=8+(8+(8+(8+(8+(8+(8+8))))))from rfl,xzal,xzal,xzal,xzal,xzal,xzal,xzal]
  omega
theorem xzdg (a b:Nat)(ha:a<9223372036854775808)(hb:b<9223372036854775808):bits .and .i64 (a:Int) (b:Int)=((a&&& b:Nat):Int):=by
 have hx:a&&& b<2^63:=Nat.and_lt_two_pow _ hb
 have h1:(BitVec.ofInt 64 (a:Int)).toNat=a:=by
  rw [BitVec.ofInt_natCast,BitVec.toNat_ofNat];exact Nat.mod_eq_of_lt (by omega)
 have h2:(BitVec.ofInt 64 (b:Int)).toNat=b:=by
  rw [BitVec.ofInt_natCast,BitVec.toNat_ofNat];exact Nat.mod_eq_of_lt (by omega)
 show IntKind.i64.wrap ((BitVec.ofInt 64 (a:Int)&&& BitVec.ofInt 64 (b:Int)).toNat:Int)=_
 rw [BitVec.toNat_and,h1,h2,IntKind.wrap_i64];omega
theorem xzbf (n:Nat)(h:n<18446744073709551616):IntKind.u64.wrap (n:Int)=(n:Int):=by
 rw [IntKind.wrap_u64];omega
theorem xzbn (a b:Int)(n k:Nat)(ha:a=(n:Int))(hb:b=(k:Int))(hn:n<18446744073709551616)(hk:k<18446744073709551616):bits .and .u64 a b=((n&&& k:Nat):Int):=by
 subst ha;subst hb;exact u64_and_nat n k hn hk
theorem xzjy (x s M:Nat)(hM:M<9223372036854775808)(hx:x<18446744073709551616):
 IntKind.u64.wrap (bits .and .u64 ((x:Int) / (s:Int)) (M:Int)+bits .and .u64 (x:Int) (M:Int))=((((x / s)&&& M)+(x&&& M):Nat):Int)/\((x / s)&&& M)+(x&&& M)<18446744073709551616:=by
 have h1:(x / s)&&& M<=M:=Nat.and_le_right;have h2:x&&& M<=M:=Nat.and_le_right;have h3:x / s<18446744073709551616:=Nat.lt_of_le_of_lt (Nat.div_le_self _ _) hx;rw [xzbn _ _ (x / s) M (by rw [Int.natCast_ediv]) rfl h3 (by omega),xzbn _ _ x M rfl rfl hx (by omega),<-Int.natCast_add,xzbf _ (by omega)];exact⟨rfl,by omega⟩
theorem xzbg (x s:Nat)(h:x+x / s<18446744073709551616):IntKind.u64.wrap ((x:Int)+(x:Int) / (s:Int))=((x+x / s:Nat):Int):=by
 rw [<-Int.natCast_ediv,<-Int.natCast_add,xzbf _ h]
theorem halve (lo hi s:Nat)(hs:lo<s):(lo+s*hi) / s=hi:=by
 rw [Nat.add_mul_div_left _ _ (by omega),Nat.div_eq_of_lt hs];omega
theorem xzkq (c0 c1 c2 c3 c4 c5 c6 c7 x3:Nat)(k0:c0<=8)(k1:c1<=8)(k2:c2<=8)(k3:c3<=8)(k4:c4<=8)(k5:c5<=8)(k6:c6<=8)(k7:c7<=8)
 (hx3:x3=c0+256*(c1+256*(c2+256*(c3+256*(c4+256*(c5+256*(c6+256*c7))))))):
 ∃ x4 x5 x6:Nat,x4=x3+x3 / 256/\x5=x4+x4 / 65536/\x6=x5+x5 / 4294967296/\x6<9223372036854775808/\x6%128=c0+c1+c2+c3+c4+c5+c6+c7:=by
 have d4:x3 / 256=c1+256*(c2+256*(c3+256*(c4+256*(c5+256*(c6+256*c7))))):=by rw [hx3];exact halve _ _ _ (by omega)
 obtain⟨x4,h4⟩:∃ x4,x4=x3+x3 / 256:=⟨_,rfl⟩
 have f4:x4=((c0+c1)+256*(c1+c2))+65536*((c2+c3)+256*((c3+c4)+256*((c4+c5)+256*((c5+c6)+256*((c6+c7)+256*c7))))):=by rw [h4,d4,hx3];omega
 have d5:x4 / 65536=(c2+c3)+256*((c3+c4)+256*((c4+c5)+256*((c5+c6)+256*((c6+c7)+256*c7)))):=by rw [f4];exact halve _ _ _ (by omega)
 obtain⟨x5,h5⟩:∃ x5,x5=x4+x4 / 65536:=⟨_,rfl⟩
 have f5:x5=((c0+c1+c2+c3)+256*((c1+c2+c3+c4)+256*((c2+c3+c4+c5)+256*(c3+c4+c5+c6))))+4294967296*((c4+c5+c6+c7)+256*((c5+c6+c7)+256*((c6+c7)+256*c7))):=by
  rw [h5,d5,f4];omega
 have d6:x5 / 4294967296=(c4+c5+c6+c7)+256*((c5+c6+c7)+256*((c6+c7)+256*c7)):=by rw [f5];exact halve _ _ _ (by omega)
 refine⟨x4,x5,_,h4,h5,rfl,?_,?_⟩
 ·rw [d6,f5];clear f5 d6 h5 d5 f4 h4 d4 hx3;omega
 ·rw [d6,f5];clear f5 d6 h5 d5 f4 h4 d4 hx3;omega
theorem xzgp (f:Nat->Bool)(x:Nat)(hx:x=wdN f 64):∃ x1 x2 x3 x4 x5 x6:Nat,
 IntKind.u64.wrap (bits .and .u64 ((x:Int) / 2) 6148914691236517205+bits .and .u64 (x:Int) 6148914691236517205)=(x1:Int)/\
 IntKind.u64.wrap (bits .and .u64 ((x1:Int) / 4) 3689348814741910323+bits .and .u64 (x1:Int) 3689348814741910323)=(x2:Int)/\
 bits .and .u64 (IntKind.u64.wrap ((x2:Int) / 16+(x2:Int))) 1085102592571150095=(x3:Int)/\
 IntKind.u64.wrap ((x3:Int)+(x3:Int) / 256)=(x4:Int)/\
 IntKind.u64.wrap ((x4:Int)+(x4:Int) / 65536)=(x5:Int)/\
 IntKind.u64.wrap ((x5:Int)+(x5:Int) / 4294967296)=(x6:Int)/\
 bits .and .i64 (wrap64 (x6:Int)) 127=(cntN f 64:Int):=by
 have hlt:x<18446744073709551616:=by have:=xzgk f 64;rw [hx];simpa using this
 obtain⟨x1,h1⟩:∃ x1,x1=((x / 2)&&& 6148914691236517205)+(x&&& 6148914691236517205):=⟨_,rfl⟩;obtain⟨x2,h2⟩:∃ x2,x2=((x1 / 4)&&& 3689348814741910323)+(x1&&& 3689348814741910323):=⟨_,rfl⟩;obtain⟨x3,h3⟩:∃ x3,x3=(x2 / 16+x2)&&& 1085102592571150095:=⟨_,rfl⟩;obtain⟨c0,c1,c2,c3,c4,c5,c6,c7,k0,k1,k2,k3,k4,k5,k6,k7,hx3,hcnt⟩:=ones_eq f x x1 x2 x3 hx h1 h2 h3;obtain⟨x4,x5,x6,h4,h5,h6,l6,m6⟩:=xzkq c0 c1 c2 c3 c4 c5 c6 c7 x3 k0 k1 k2 k3 k4 k5 k6 k7 hx3
 have l3:x3+x3 / 256<=x6:=by rw [<-h4,h6,h5];clear h1 h2 h3 h4 h5 h6 hx3 hcnt;exact Nat.le_trans (Nat.le_add_right _ _) (Nat.le_add_right _ _)
 have l4:x4+x4 / 65536<=x6:=by rw [<-h5,h6];exact Nat.le_add_right _ _
 have e1:=xzjy x 2 6148914691236517205 (by decide) hlt;rw [<-h1]at e1;have e2:=xzjy x1 4 3689348814741910323 (by decide) e1.2;have b1:(x1 / 4)&&& 3689348814741910323<=3689348814741910323:=Nat.and_le_right;have b2:x1&&& 3689348814741910323<=3689348814741910323:=Nat.and_le_right
 have l2:x2 / 16+x2<18446744073709551616:=by clear h1 h3 h4 h5 h6 hx3 hcnt e1 e2 l3 l4;omega
 rw [<-h2]at e2
 have e3:bits .and .u64 (IntKind.u64.wrap ((x2:Int) / 16+(x2:Int))) 1085102592571150095=(x3:Int):=by
  have c:IntKind.u64.wrap ((x2:Int) / ((16:Nat):Int)+(x2:Int))=((x2 / 16+x2:Nat):Int):=by
   rw [<-Int.natCast_ediv,<-Int.natCast_add,xzbf _ l2]
  rw [h3];exact xzbn _ _ (x2 / 16+x2) 1085102592571150095 c rfl l2 (by decide)
 refine⟨x1,x2,x3,x4,x5,x6,e1.1,e2.1,e3,?_,?_,?_,?_⟩
 ·rw [h4];exact xzbg x3 256 (Nat.lt_of_le_of_lt l3 (Nat.lt_trans l6 (by decide)))
 ·rw [h5];exact xzbg x4 65536 (Nat.lt_of_le_of_lt l4 (Nat.lt_trans l6 (by decide)))
 ·rw [h6];exact xzbg x5 4294967296 (by rw [<-h6];exact Nat.lt_trans l6 (by decide))
 ·have a:=xzdg x6 127 l6 (by decide)
  have w6:wrap64 (x6:Int)=(x6:Int):=by unfold wrap64;clear h1 h2 h3 h4 h5 h6 hx3 hcnt e1 e2 e3;omega
  rw [w6,hcnt,<-m6,<-nat_mask7];exact a
end
end Go.Proofs.YtgjfhbpmahgfcaaDoor
