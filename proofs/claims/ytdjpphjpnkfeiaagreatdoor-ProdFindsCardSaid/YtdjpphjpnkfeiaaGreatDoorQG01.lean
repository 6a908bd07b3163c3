/-
 WHAT IS SAID OF NO PROGRAM: a loop that is over within n rounds; sets of bytes as four words, by which byte is in. No condition.
-/
import Derived.WalkKit
import Derived.WalkSpells
import Derived.ProofKit
import Derived.Test.YtdjpphjpnkfeiaaGreatDoorRows
import Derived.Lib.Hide
import Derived.Deep.RegionWith
import Derived.Deep.RegionHeld3
import Derived.BigQuiet
namespace Go.Proofs.YtdjpphjpnkfeiaaGreatDoor
section
open Go.RowKit
theorem zq:(∀ {α:Type} {l:List α} {i:Nat},l.toArray[i]? =l[i]?)/\(∀ {α:Type} {a:α} {l:List α},(a::l)[0]? =some a)/\∀ {α:Type} {a:α} {l:List α} {i:Nat},(a::l)[i+1]? =l[i]? :=⟨List.getElem?_toArray,List.getElem?_cons_zero,List.getElem?_cons_succ⟩
theorem zr:((∀ {α:Type} {l:List α} {i:Nat},l.toArray[i]? =l[i]?)/\(∀ {α:Type} {a:α} {l:List α},(a::l)[0]? =some a)/\∀ {α:Type} {a:α} {l:List α} {i:Nat},(a::l)[i+1]? =l[i]?)/\(∀ {α β:Type} (a:α) (f:α->Option β),(some a).bind f=f a)/\(∀ {α:Type} {l:List α} {i:Nat} {a:α},l.toArray.setIfInBounds i a=(l.set i a).toArray)/\(∀ {α:Type} {x y:α} {l:List α},(x::l).set 0 y=y::l)/\∀ {α:Type} {x y:α} {l:List α} {i:Nat},(x::l).set (i+1) y=x::l.set i y:=⟨zq,Option.bind_some,List.setIfInBounds_toArray ..,List.set_cons_zero,List.set_cons_succ⟩
theorem zh {α:Type}{a b:α}:(some a=some b)=(a=b):=Option.some.injEq a b
theorem zd {p:Prop}(h:p):Hid p:=h
def Unr (P:Program)(c:Code)(Q:Exit->Act->World->Prop):Nat->Act->World->Prop
 |0,_,_=>False
 |n+1,a,w=>c.wp P (Exit.then (Unr P c Q n) Q) a w
theorem xzdd {P:Program}{Q:Exit->Act->World->Prop}{a:Act}{w:World}{c:Code}{n:Nat}
 (h:∀ K:Act->World->Prop,(∀ a w,Unr P c Q n a w->K a w)->c.wp P (Exit.then K Q) a w):Unr P c Q (n+1) a w:=
 h _ (fun _ _ h=>h)
open Classical in
theorem xzbl {P:Program}{Q:Exit->Act->World->Prop}{a:Act}{w:World}{c:Code}(n:Nat)(h:Unr P c Q n a w):(Code.loop c).wp P Q a w:=by
 have least:∀ n a w,Unr P c Q n a w->∃ m,Unr P c Q m a w/\∀ k,k<m-> ¬ Unr P c Q k a w:=by
  intro n
  induction n using Nat.strongRecOn with
  |_ n ih=>
   intro a w h
   by_cases hk:∃ k,k<n/\Unr P c Q k a w
   ·obtain⟨k,hlt,hu⟩:=hk
    exact ih k hlt a w hu
   ·exact⟨n,h,fun k hlt hu=>hk ⟨k,hlt,hu⟩⟩
 refine wp_loop (fun a w=>∃ n,Unr P c Q n a w) (fun a w=>if h:∃ m,Unr P c Q m a w/\∀ k,k<m-> ¬ Unr P c Q k a w then h.choose else 0) ⟨n,h⟩ ?_;intro a w hI
 have hm:∃ m,Unr P c Q m a w/\∀ k,k<m-> ¬ Unr P c Q k a w:=by obtain⟨n,hn⟩:=hI;exact least n a w hn
 have hd:=hm.choose_spec;rw [dif_pos hm];generalize hm.choose=m at hd;obtain⟨hu,_⟩:=hd
 cases m with
 |zero=>exact hu.elim
 |succ m=>
  refine Code.wp_mono (fun e a' w' q=>?_) hu
  cases e with
  |normal=>
   have q':Unr P c Q m a' w':=q;refine⟨⟨m,q'⟩,?_⟩;have hm':=least m a' w' q';rw [dif_pos hm'];have hs:=hm'.choose_spec
   rcases Nat.lt_or_ge m hm'.choose with hlt|hge
   ·exact(hs.2 m hlt q').elim
   ·exact Nat.lt_succ_of_le hge
  |_=>exact q
def wdN (f:Nat->Bool):Nat->Nat
 |0=>0
 |n+1=>wdN f n+(if f n then 2^n else 0)
theorem xzss (f:Nat->Bool):∀ n,wdN f n<2^n
 |0=>by simp [wdN]
 |n+1=>by
  have:=xzss f n
  have h2:2^(n+1)=2^n+2^n:=by rw [Nat.pow_succ];omega
  unfold wdN
  split<;>omega
theorem xziv (f:Nat->Bool):∀ n i,(wdN f n).testBit i=(decide (i<n)&&f i)
 |0,i=>by simp [wdN]
 |n+1,i=>by
  have ih:=xziv f n;have hlt:=xzss f n
  have e:wdN f (n+1)=2^n*(if f n then 1 else 0)+wdN f n:=by
   show wdN f n+(if f n then 2^n else 0)=_
   cases f n<;>simp [Nat.add_comm]
  rw [e,Nat.testBit_two_pow_mul_add _ hlt]
  by_cases h1:i<n
  ·have h2:i<n+1:=by omega
   rw [if_pos h1,ih]
   simp [h1,h2]
  ·rw [if_neg h1]
   by_cases h2:i=n
   ·subst h2
    cases hf:f i<;>simp
   ·have h3: ¬ i<n+1:=by omega
    have h4:i - n≠0:=by omega
    have h5:Nat.testBit 1 (i - n)=false:=by
     cases ht:Nat.testBit 1 (i - n)
     ·rfl
     ·exact absurd (Nat.testBit_one_eq_true_iff_self_eq_zero.1 ht) h4
    cases hf:f n<;>simp [h3,h5]
def wd (m:Nat->Bool)(i:Nat):Nat:=wdN (fun j=>m (64*i+j)) 64
theorem xzis (m:Nat->Bool)(i:Nat):wd m i<18446744073709551616:=by
 have:=xzss (fun j=>m (64*i+j)) 64
 simpa [wd]using this
theorem xzaw (m:Nat->Bool)(i j:Nat):(wd m i).testBit j=(decide (j<64)&&m (64*i+j)):=xziv _ _ _
theorem xzxw {a:Nat}{m:Nat->Bool}{i:Nat}(ha:a<18446744073709551616)(h:∀ j,j<64->a.testBit j=m (64*i+j)):a=wd m i:=by
 refine Nat.eq_of_testBit_eq fun j=>?_
 rw [xzaw]
 by_cases hj:j<64
 ·rw [h j hj];simp [hj]
 ·have:a<2^j:=Nat.lt_of_lt_of_le ha (by
   have:2^64<=2^j:=Nat.pow_le_pow_right (by decide) (by omega)
   simpa using this)
  rw [Nat.testBit_lt_two_pow this]
  simp [hj]
theorem xzbh {m n:Nat->Bool}{i:Nat}(h:∀ j,j<64->m (64*i+j)=n (64*i+j)):wd m i=wd n i:=
 xzxw (xzis _ _) fun j hj=>by rw [xzaw,h j hj];simp [hj]
theorem xzqu {m n:Nat->Bool}{i:Nat}(h:wd m i=wd n i){j:Nat}(hj:j<64):m (64*i+j)=n (64*i+j):=by
 have:=congrArg (fun x=>Nat.testBit x j) h
 simpa [xzaw,hj]using this
abbrev setV (m:Nat->Bool):Value:=.agg #[.int .u64 (wd m 0:Nat),.int .u64 (wd m 1:Nat),.int .u64 (wd m 2:Nat),.int .u64 (wd m 3:Nat)]
theorem xzgu {m n:Nat->Bool}(h:∀ b,b<256->m b=n b):setV m=setV n:=by
 unfold setV
 rw [xzbh (m:=m) (n:=n) (i:=0) (fun j hj=>h _ (by omega)),xzbh (m:=m) (n:=n) (i:=1) (fun j hj=>h _ (by omega)),
  xzbh (m:=m) (n:=n) (i:=2) (fun j hj=>h _ (by omega)),xzbh (m:=m) (n:=n) (i:=3) (fun j hj=>h _ (by omega))]
def setEq (m n:Nat->Bool):Bool:=wd m 0==wd n 0&&(wd m 1==wd n 1&&(wd m 2==wd n 2&&wd m 3==wd n 3))
theorem setEq_iff {m n:Nat->Bool}:setEq m n=true↔ ∀ b,b<256->m b=n b:=by
 unfold setEq;simp only [Bool.and_eq_true,beq_iff_eq]
 constructor
 ·rintro⟨h0,h1,h2,h3⟩ b hb
  have e:b=64*(b / 64)+b%64:=by omega
  have hq:b / 64=0\/b / 64=1\/b / 64=2\/b / 64=3:=by omega
  rw [e]
  rcases hq with hq|hq|hq|hq<;>rw [hq]
  ·exact xzqu h0 (by omega)
  ·exact xzqu h1 (by omega)
  ·exact xzqu h2 (by omega)
  ·exact xzqu h3 (by omega)
 ·intro h
  exact⟨xzbh fun j hj=>h _ (by omega),xzbh fun j hj=>h _ (by omega),xzbh fun j hj=>h _ (by omega),xzbh fun j hj=>h _ (by omega)⟩
def sOr (m n:Nat->Bool):Nat->Bool:=fun b=>m b||n b
def sAnd (m n:Nat->Bool):Nat->Bool:=fun b=>m b&&n b
def sLess (m n:Nat->Bool):Nat->Bool:=fun b=>m b&& !n b
def sNot (m:Nat->Bool):Nat->Bool:=fun b=> !m b
def sBelow (k:Int):Nat->Bool:=fun b=>decide ((b:Int)<k)
def sRange (lo hi:Int):Nat->Bool:=fun b=>decide (lo<=(b:Int))&&decide ((b:Int)<=hi)
def sOf (l:List Nat):Nat->Bool:=fun b=>decide (b∈l)
theorem xzky (m n:Nat->Bool)(i:Nat):bits .or .u64 (wd m i:Nat) (wd n i:Nat)=(wd (sOr m n) i:Nat):=by
 rw [u64_or_nat _ _ (xzis _ _) (xzis _ _)]
 congr 1
 refine xzxw (Nat.or_lt_two_pow (n:=64) (xzis _ _) (xzis _ _)) fun j hj=>?_
 rw [Nat.testBit_or,xzaw,xzaw];simp [hj,sOr]
theorem xzqv (m n:Nat->Bool)(i:Nat):bits .and .u64 (wd m i:Nat) (wd n i:Nat)=(wd (sAnd m n) i:Nat):=by
 rw [u64_and_nat _ _ (xzis _ _) (xzis _ _)]
 congr 1
 refine xzxw (Nat.and_lt_two_pow (n:=64) _ (xzis _ _)) fun j hj=>?_
 rw [Nat.testBit_and,xzaw,xzaw];simp [hj,sAnd]
theorem sub_wd (m:Nat->Bool)(i:Nat):18446744073709551615 - wd m i=wd (sNot m) i:=by
 refine xzxw (by omega) fun j hj=>?_
 have e:18446744073709551615 - wd m i=2^64 - (wd m i+1):=by have:=xzis m i;omega
 rw [e,Nat.testBit_two_pow_sub_succ (xzis m i),xzaw]
 simp [hj,sNot]
theorem xzjx (m n:Nat->Bool)(i:Nat):bits .andNot .u64 (wd m i:Nat) (wd n i:Nat)=(wd (sLess m n) i:Nat):=by
 rw [u64_andNot_nat _ _ (xzis _ _) (xzis _ _),sub_wd]
 congr 1
 refine xzxw (Nat.and_lt_two_pow (n:=64) _ (xzis _ _)) fun j hj=>?_
 rw [Nat.testBit_and,xzaw,xzaw];simp [hj,sLess,sNot]
theorem lowBits (n:Int)(i t:Nat)(ht:t<=64)(h:∀ j,j<64->(j<t↔((64*i+j:Nat):Int)<n)):2^t - 1=wd (sBelow n) i:=by
 have hp:2^t<=2^64:=Nat.pow_le_pow_right (by decide) ht;have h0:0<2^t:=Nat.two_pow_pos t
 refine xzxw (by omega) fun j hj=>?_
 rw [Nat.testBit_two_pow_sub_one];exact decide_eq_decide.2 (h j hj)
theorem xzcu (n:Int)(i:Nat)(h:64*(i:Int)+64<=n):IntKind.u64.wrap (IntKind.u64.wrap 18446744073709551616 - 1)=(wd (sBelow n) i:Int):=by
 rw [<-lowBits n i 64 (Nat.le_refl _) (fun j hj=>⟨fun _=>by omega,fun _=>hj⟩),IntKind.wrap_u64,IntKind.wrap_u64]
 decide
theorem xzdn (n t:Int)(i:Nat)(ht:t=n - 64*(i:Int))(h0:0<=t)(h1:t<=64):IntKind.u64.wrap (IntKind.u64.wrap (2^t.toNat) - 1)=(wd (sBelow n) i:Int):=by
 obtain⟨k,rfl⟩:=Int.eq_ofNat_of_zero_le h0
 have hk:k<=64:=by omega
 rw [<-lowBits n i k hk (fun j hj=>by omega),Int.toNat_natCast,IntKind.wrap_u64,IntKind.wrap_u64];have hp:2^k<=2^64:=Nat.pow_le_pow_right (by decide) hk;have hp0:0<2^k:=Nat.two_pow_pos k
 have e:((2:Int)^k)=((2^k:Nat):Int):=by rw [Int.natCast_pow];rfl
 rw [e];generalize 2^k=p at*;omega
theorem xzoo:IntKind.u64.wrap (IntKind.u64.wrap 1 - 1)=0:=by decide
theorem xzbr (n:Int)(i:Nat)(h:n<=64*(i:Int)):(wd (sBelow n) i:Int)=0:=by
 rw [<-lowBits n i 0 (by decide) (fun j hj=>⟨fun h=>absurd h (by omega),fun h=>by omega⟩)]
 rfl
theorem ret_int {k:IntKind}{a b:Int}(h:a=b):Ending.returned (.int k a)=.returned (.int k b):=by rw [h]
theorem xzjy {a b:Bool}(h:a=b):Ending.returned (.bool a)=.returned (.bool b):=by rw [h]
theorem belowStep {W w1:World}{g:Nat}(hb:Below W.heap.size W w1)(hg:g<W.heap.size):
 (∀ o,w1.cell? ⟨g,o,none⟩=W.cell? ⟨g,o,none⟩)/\(∀ o,w1.frozen? ⟨g,o,none⟩=W.frozen? ⟨g,o,none⟩)/\g<w1.heap.size:=
 ⟨fun o=>hb.cell (p:=⟨g,o,none⟩) hg,fun o=>hb.frozen (p:=⟨g,o,none⟩) hg,Nat.lt_of_lt_of_le hg hb.size⟩
end
section
open Go.RowKit
theorem xzna (u v p q:Nat)(hu:u<256)(hp:p<256):(u+256*v)&&& (p+256*q)=(u&&& p)+256*(v&&& q):=by
 have huv:u&&& p<2^8:=Nat.and_lt_two_pow _ hp
 refine Nat.eq_of_testBit_eq fun j=>?_
 rw [Nat.testBit_and,Nat.add_comm u,Nat.add_comm p,Nat.add_comm (u&&& p),show(256:Nat)=2^8 from rfl,
  Nat.testBit_two_pow_mul_add _ hu,Nat.testBit_two_pow_mul_add _ hp,Nat.testBit_two_pow_mul_add _ huv]
 split<;>simp [Nat.testBit_and]
def swar (s m u:Nat):Nat:=((u / 2^s)&&& m)+(u&&& m)
theorem xzop {s m M u v:Nat}(hs:s<=8)(hm:m<256)(hu:u<256)
 (h:∀ c,c<2^s->(u / 2^s+2^(8 - s)*c)&&& m=(u / 2^s)&&& m):
 swar s (m+256*M) (u+256*v)=swar s m u+256*swar s M v:=by
 have hp:2^s*2^(8 - s)=256:=by rw [<-Nat.pow_add,show s+(8 - s)=8 by omega]
 have h0:0<2^s:=Nat.two_pow_pos s;have hc:v%2^s<2^s:=Nat.mod_lt _ h0
 have e:(u+256*v) / 2^s=(u / 2^s+2^(8 - s)*(v%2^s))+256*(v / 2^s):=by
  have e1:u+256*v=u+2^s*(2^(8 - s)*v):=by rw [<-Nat.mul_assoc,hp]
  rw [e1,Nat.add_mul_div_left _ _ h0]
  have e2:v=v%2^s+2^s*(v / 2^s):=by rw [Nat.mod_add_div]
  have e3:2^(8 - s)*v=2^(8 - s)*(v%2^s)+256*(v / 2^s):=by
   conv=>lhs;rw [e2]
   rw [Nat.mul_add,<-Nat.mul_assoc (2^(8 - s)),Nat.mul_comm (2^(8 - s)) (2^s),hp]
  omega
 have hlow:u / 2^s+2^(8 - s)*(v%2^s)<256:=by
  have h1:u / 2^s<2^(8 - s):=(Nat.div_lt_iff_lt_mul h0).2 (by rw [Nat.mul_comm,hp];exact hu);have h2:2^(8 - s)*(v%2^s)<=2^(8 - s)*(2^s - 1):=Nat.mul_le_mul_left _ (by omega)
  have h3:2^(8 - s)*(2^s - 1)+2^(8 - s)=256:=by
   have h4:2^s - 1+1=2^s:=by omega
   have h5:2^(8 - s)*(2^s - 1)+2^(8 - s)=2^(8 - s)*((2^s - 1)+1):=by rw [Nat.mul_add,Nat.mul_one]
   rw [h5,h4,Nat.mul_comm,hp]
  omega
 unfold swar;rw [e,xzna _ _ _ _ hlow hm,xzna _ _ _ _ hu hm,h _ hc];omega
def m0:Nat->Nat|0=>0|n+1=>85+256*m0 n
def m1:Nat->Nat|0=>0|n+1=>51+256*m1 n
def m2:Nat->Nat|0=>0|n+1=>15+256*m2 n
def ofB:List Nat->Nat|[]=>0|u::l=>u+256*ofB l
theorem lane0:∀ u,u<256->∀ c,c<2^1->(u / 2^1+2^(8 - 1)*c)&&& 85=(u / 2^1)&&& 85:=by decide+kernel
theorem lane1:∀ u,u<256->∀ c,c<2^2->(u / 2^2+2^(8 - 2)*c)&&& 51=(u / 2^2)&&& 51:=by decide+kernel
theorem swar0:∀ l:List Nat,(∀ u∈l,u<256)->swar 1 (m0 l.length) (ofB l)=ofB (l.map (swar 1 85))
 |[],_=>by simp [swar,m0,ofB]
 |u::l,h=>by
  have hu:=h u (by simp);have:=swar0 l (fun x hx=>h x (by simp [hx]));simp only [List.length_cons,m0,ofB,List.map_cons];rw [xzop (by decide) (by decide) hu (lane0 u hu),this]
theorem swar1:∀ l:List Nat,(∀ u∈l,u<256)->swar 2 (m1 l.length) (ofB l)=ofB (l.map (swar 2 51))
 |[],_=>by simp [swar,m1,ofB]
 |u::l,h=>by
  have hu:=h u (by simp);have:=swar1 l (fun x hx=>h x (by simp [hx]));simp only [List.length_cons,m1,ofB,List.map_cons];rw [xzop (by decide) (by decide) hu (lane1 u hu),this]
def fold4 (m x:Nat):Nat:=(x / 16+x)&&& m
def Nib (u:Nat):Prop:=u<256/\u%16<=4/\u / 16<=4
theorem xzst:∀ u,u<256->u%16<=4->u / 16<=4->∀ c,c<5->(u / 16+16*c+u)<256/\(u / 16+16*c+u)&&& 15=(u / 16+u)&&& 15:=by decide+kernel
theorem ofB_nib:∀ l:List Nat,(∀ u∈l,Nib u)->ofB l%16<5
 |[],_=>by simp [ofB]
 |u::l,h=>by have:=(h u (by simp)).2.1;simp only [ofB];omega
theorem xzoq:∀ l:List Nat,(∀ u∈l,Nib u)->fold4 (m2 l.length) (ofB l)=ofB (l.map (fold4 15))
 |[],_=>by simp [fold4,m2,ofB]
 |u::l,h=>by
  obtain⟨h1,h2,h3⟩:=h u (by simp);have ih:=xzoq l (fun x hx=>h x (by simp [hx]));have hc:=ofB_nib l (fun x hx=>h x (by simp [hx]));obtain⟨h4,h5⟩:=xzst u h1 h2 h3 _ hc
  have e:(u+256*ofB l) / 16+(u+256*ofB l)=(u / 16+16*(ofB l%16)+u)+256*(ofB l / 16+ofB l):=by omega
  simp only [List.length_cons,m2,ofB,List.map_cons,<-ih];unfold fold4;rw [e,xzna _ _ _ _ h4 (by decide),h5]
def cntN (f:Nat->Bool):Nat->Nat
 |0=>0
 |n+1=>cntN f n+(if f n then 1 else 0)
theorem xzcr (f:Nat->Bool):∀ n,cntN f n<=n
 |0=>by simp [cntN]
 |n+1=>by have:=xzcr f n;unfold cntN;split<;>omega
theorem yzce (f:Nat->Bool)(a:Nat):∀ b,wdN f (a+b)=wdN f a+2^a*wdN (fun j=>f (a+j)) b
 |0=>by simp [wdN]
 |b+1=>by
  have ih:=yzce f a b
  show wdN f (a+b)+(if f (a+b)then 2^(a+b)else 0)=_
  rw [ih]
  show _=wdN f a+2^a*(wdN (fun j=>f (a+j)) b+(if f (a+b)then 2^b else 0))
  rw [Nat.mul_add,Nat.add_assoc]
  congr 2
  split
  ·rw [Nat.pow_add]
  ·simp
theorem xzcn (f:Nat->Bool)(a:Nat):∀ b,cntN f (a+b)=cntN f a+cntN (fun j=>f (a+j)) b
 |0=>by simp [cntN]
 |b+1=>by
  have ih:=xzcn f a b
  show cntN f (a+b)+(if f (a+b)then 1 else 0)=_
  rw [ih]
  show _=cntN f a+(cntN (fun j=>f (a+j)) b+(if f (a+b)then 1 else 0))
  omega
def bytesN (f:Nat->Bool):Nat->List Nat
 |0=>[]
 |k+1=>wdN f 8::bytesN (fun j=>f (8+j)) k
theorem xzsu (k:Nat):∀ f:Nat->Bool,ofB (bytesN f k)=wdN f (8*k):=by
 induction k with
 |zero=>intro f;simp [bytesN,ofB,wdN]
 |succ k ih=>
  intro f;rw [show 8*(k+1)=8+8*k by omega,yzce];simp only [bytesN,ofB,ih]
theorem xzdo (k:Nat):∀ f:Nat->Bool,(bytesN f k).length=k:=by
 induction k with
 |zero=>intro f;rfl
 |succ k ih=>intro f;simp [bytesN,ih]
def cntsN (f:Nat->Bool):Nat->List Nat
 |0=>[]
 |k+1=>cntN f 8::cntsN (fun j=>f (8+j)) k
theorem eight:∀ b0 b1 b2 b3 b4 b5 b6 b7:Bool,
 (let u:=(((((((if b0 then 1 else 0)+(if b1 then 2 else 0))+(if b2 then 4 else 0))+(if b3 then 8 else 0))+(if b4 then 16 else 0))+(if b5 then 32 else 0))+(if b6 then 64 else 0))+(if b7 then 128 else 0)
  fold4 15 (swar 2 51 (swar 1 85 u))=(((((((if b0 then 1 else 0)+(if b1 then 1 else 0))+(if b2 then 1 else 0))+(if b3 then 1 else 0))+(if b4 then 1 else 0))+(if b5 then 1 else 0))+(if b6 then 1 else 0))+(if b7 then 1 else 0)/\
  swar 1 85 u<256/\swar 2 51 (swar 1 85 u)<256/\swar 2 51 (swar 1 85 u)%16<=4/\swar 2 51 (swar 1 85 u) / 16<=4):=by decide+kernel
theorem yzcu (f:Nat->Bool):fold4 15 (swar 2 51 (swar 1 85 (wdN f 8)))=cntN f 8/\swar 1 85 (wdN f 8)<256/\Nib (swar 2 51 (swar 1 85 (wdN f 8))):=by
 have h:=eight (f 0) (f 1) (f 2) (f 3) (f 4) (f 5) (f 6) (f 7)
 have e:wdN f 8=(((((((if f 0 then 1 else 0)+(if f 1 then 2 else 0))+(if f 2 then 4 else 0))+(if f 3 then 8 else 0))+(if f 4 then 16 else 0))+(if f 5 then 32 else 0))+(if f 6 then 64 else 0))+(if f 7 then 128 else 0):=by
  simp [wdN]
 have e2:cntN f 8=(((((((if f 0 then 1 else 0)+(if f 1 then 1 else 0))+(if f 2 then 1 else 0))+(if f 3 then 1 else 0))+(if f 4 then 1 else 0))+(if f 5 then 1 else 0))+(if f 6 then 1 else 0))+(if f 7 then 1 else 0):=by
  simp [cntN]
 rw [e,e2];exact⟨h.1,h.2.1,h.2.2⟩
theorem yzcv (k:Nat):∀ f:Nat->Bool,(∀ u∈bytesN f k,u<256)/\(∀ u∈(bytesN f k).map (swar 1 85),u<256)/\(∀ u∈((bytesN f k).map (swar 1 85)).map (swar 2 51),Nib u)/\
 (((bytesN f k).map (swar 1 85)).map (swar 2 51)).map (fold4 15)=cntsN f k:=by
 induction k with
 |zero=>intro f;simp [bytesN,cntsN]
 |succ k ih=>
  intro f;obtain⟨i1,i2,i3,i4⟩:=ih (fun j=>f (8+j));obtain⟨e1,e2,e3⟩:=yzcu f;have e0:wdN f 8<256:=xzss f 8;simp only [bytesN,cntsN,List.map_cons,List.mem_cons,forall_eq_or_imp,i4,e1];exact⟨⟨e0,i1⟩,⟨e2,i2⟩,⟨e3,i3⟩,trivial⟩
theorem xzxx (f:Nat->Bool)(k:Nat):fold4 (m2 k) (swar 2 (m1 k) (swar 1 (m0 k) (wdN f (8*k))))=ofB (cntsN f k):=by
 obtain⟨i1,i2,i3,i4⟩:=yzcv k f;have a:=swar0 (bytesN f k) i1;rw [xzdo,xzsu]at a;have b:=swar1 _ i2;rw [List.length_map,xzdo]at b;have c:=xzoq _ i3;rw [List.length_map,List.length_map,xzdo]at c;rw [a,b,c,i4]
theorem ones_eq (f:Nat->Bool)(x x1 x2 x3:Nat)(hx:x=wdN f 64)
 (h1:x1=((x / 2)&&& 6148914691236517205)+(x&&& 6148914691236517205))
 (h2:x2=((x1 / 4)&&& 3689348814741910323)+(x1&&& 3689348814741910323))
 (h3:x3=(x2 / 16+x2)&&& 1085102592571150095):
 ∃ c0 c1 c2 c3 c4 c5 c6 c7:Nat,c0<=8/\c1<=8/\c2<=8/\c3<=8/\c4<=8/\c5<=8/\c6<=8/\c7<=8/\
  x3=c0+256*(c1+256*(c2+256*(c3+256*(c4+256*(c5+256*(c6+256*c7))))))/\cntN f 64=c0+c1+c2+c3+c4+c5+c6+c7:=by
 have h:=xzxx f 8
 have e0:m0 8=6148914691236517205:=by decide+kernel
 have e1:m1 8=3689348814741910323:=by decide+kernel
 have e2:m2 8=1085102592571150095:=by decide+kernel
 rw [e0,e1,e2]at h;simp only [fold4,swar,show(8*8:Nat)=64 from rfl,<-hx,show(2:Nat)^1=2 from rfl,show(2:Nat)^2=4 from rfl]at h;rw [<-h1]at h;rw [<-h2]at h;rw [<-h3]at h
 refine⟨_,_,_,_,_,_,_,_,xzcr f 8,xzcr (fun j=>f (8+j)) 8,xzcr (fun j=>f (8+(8+j))) 8,xzcr (fun j=>f (8+(8+(8+j)))) 8,
  xzcr (fun j=>f (8+(8+(8+(8+j))))) 8,xzcr (fun j=>f (8+(8+(8+(8+(8+j)))))) 8,xzcr (fun j=>f (8+(8+(8+(8+(8+(8+j))))))) 8,
  xzcr (fun j=>f (8+(8+(8+(8+(8+(8+(8+j)))))))) 8,?_,?_⟩
 ·rw [h];simp [cntsN,ofB]
 ·rw [show(64:Nat)=8+(8+(8+(8+(8+(8+(8+8))))))from rfl,xzcn,xzcn,xzcn,xzcn,xzcn,xzcn,xzcn]
  omega
theorem xzkz (a b:Nat)(ha:a<9223372036854775808)(hb:b<9223372036854775808):bits .and .i64 (a:Int) (b:Int)=((a&&& b:Nat):Int):=by
 have hx:a&&& b<2^63:=Nat.and_lt_two_pow _ hb
 have h1:(BitVec.ofInt 64 (a:Int)).toNat=a:=by
  rw [BitVec.ofInt_natCast,BitVec.toNat_ofNat];exact Nat.mod_eq_of_lt (by omega)
 have h2:(BitVec.ofInt 64 (b:Int)).toNat=b:=by
  rw [BitVec.ofInt_natCast,BitVec.toNat_ofNat];exact Nat.mod_eq_of_lt (by omega)
 show IntKind.i64.wrap ((BitVec.ofInt 64 (a:Int)&&& BitVec.ofInt 64 (b:Int)).toNat:Int)=_
 rw [BitVec.toNat_and,h1,h2,IntKind.wrap_i64];omega
theorem xzeh (n:Nat)(h:n<18446744073709551616):IntKind.u64.wrap (n:Int)=(n:Int):=by
 rw [IntKind.wrap_u64];omega
theorem xzfd (a b:Int)(n k:Nat)(ha:a=(n:Int))(hb:b=(k:Int))(hn:n<18446744073709551616)(hk:k<18446744073709551616):bits .and .u64 a b=((n&&& k:Nat):Int):=by
 subst ha;subst hb;exact u64_and_nat n k hn hk
theorem yzcf (x s M:Nat)(hM:M<9223372036854775808)(hx:x<18446744073709551616):
 IntKind.u64.wrap (bits .and .u64 ((x:Int) / (s:Int)) (M:Int)+bits .and .u64 (x:Int) (M:Int))=((((x / s)&&& M)+(x&&& M):Nat):Int)/\((x / s)&&& M)+(x&&& M)<18446744073709551616:=by
 have h1:(x / s)&&& M<=M:=Nat.and_le_right;have h2:x&&& M<=M:=Nat.and_le_right;have h3:x / s<18446744073709551616:=Nat.lt_of_le_of_lt (Nat.div_le_self _ _) hx;rw [xzfd _ _ (x / s) M (by rw [Int.natCast_ediv]) rfl h3 (by omega),xzfd _ _ x M rfl rfl hx (by omega),<-Int.natCast_add,xzeh _ (by omega)];exact⟨rfl,by omega⟩
theorem xzei (x s:Nat)(h:x+x / s<18446744073709551616):IntKind.u64.wrap ((x:Int)+(x:Int) / (s:Int))=((x+x / s:Nat):Int):=by
 rw [<-Int.natCast_ediv,<-Int.natCast_add,xzeh _ h]
theorem halve (lo hi s:Nat)(hs:lo<s):(lo+s*hi) / s=hi:=by
 rw [Nat.add_mul_div_left _ _ (by omega),Nat.div_eq_of_lt hs];omega
theorem yzcw (c0 c1 c2 c3 c4 c5 c6 c7 x3:Nat)(k0:c0<=8)(k1:c1<=8)(k2:c2<=8)(k3:c3<=8)(k4:c4<=8)(k5:c5<=8)(k6:c6<=8)(k7:c7<=8)
 (hx3:x3=c0+256*(c1+256*(c2+256*(c3+256*(c4+256*(c5+256*(c6+256*c7))))))):
 ∃ x4 x5 x6:Nat,x4=x3+x3 / 256/\x5=x4+x4 / 65536/\x6=x5+x5 / 4294967296/\x6<9223372036854775808/\x6%128=c0+c1+c2+c3+c4+c5+c6+c7:=by
 have d4:x3 / 256=c1+256*(c2+256*(c3+256*(c4+256*(c5+256*(c6+256*c7))))):=by rw [hx3];exact halve _ _ _ (by omega)
 obtain⟨x4,h4⟩:∃ x4,x4=x3+x3 / 256:=⟨_,rfl⟩
 have f4:x4=((c0+c1)+256*(c1+c2))+65536*((c2+c3)+256*((c3+c4)+256*((c4+c5)+256*((c5+c6)+256*((c6+c7)+256*c7))))):=by rw [h4,d4,hx3];omega
 have d5:x4 / 65536=(c2+c3)+256*((c3+c4)+256*((c4+c5)+256*((c5+c6)+256*((c6+c7)+256*c7)))):=by rw [f4];exact halve _ _ _ (by omega)
 obtain⟨x5,h5⟩:∃ x5,x5=x4+x4 / 65536:=⟨_,rfl⟩
 have f5:x5=((c0+c1+c2+c3)+256*((c1+c2+c3+c4)+256*((c2+c3+c4+c5)+256*(c3+c4+c5+c6))))+4294967296*((c4+c5+c6+c7)+256*((c5+c6+c7)+256*((c6+c7)+256*c7))):=by
  rw [h5,d5,f4];omega
 have d6:x5 / 4294967296=(c4+c5+c6+c7)+256*((c5+c6+c7)+256*((c6+c7)+256*c7)):=by rw [f5];exact halve _ _ _ (by omega)
 refine⟨x4,x5,_,h4,h5,rfl,?_,?_⟩
 ·rw [d6,f5];clear f5 d6 h5 d5 f4 h4 d4 hx3;omega
 ·rw [d6,f5];clear f5 d6 h5 d5 f4 h4 d4 hx3;omega
theorem xzsv (f:Nat->Bool)(x:Nat)(hx:x=wdN f 64):∃ x1 x2 x3 x4 x5 x6:Nat,
 IntKind.u64.wrap (bits .and .u64 ((x:Int) / 2) 6148914691236517205+bits .and .u64 (x:Int) 6148914691236517205)=(x1:Int)/\
 IntKind.u64.wrap (bits .and .u64 ((x1:Int) / 4) 3689348814741910323+bits .and .u64 (x1:Int) 3689348814741910323)=(x2:Int)/\
 bits .and .u64 (IntKind.u64.wrap ((x2:Int) / 16+(x2:Int))) 1085102592571150095=(x3:Int)/\
 IntKind.u64.wrap ((x3:Int)+(x3:Int) / 256)=(x4:Int)/\
 IntKind.u64.wrap ((x4:Int)+(x4:Int) / 65536)=(x5:Int)/\
 IntKind.u64.wrap ((x5:Int)+(x5:Int) / 4294967296)=(x6:Int)/\
 bits .and .i64 (wrap64 (x6:Int)) 127=(cntN f 64:Int):=by
 have hlt:x<18446744073709551616:=by have:=xzss f 64;rw [hx];simpa using this
 obtain⟨x1,h1⟩:∃ x1,x1=((x / 2)&&& 6148914691236517205)+(x&&& 6148914691236517205):=⟨_,rfl⟩;obtain⟨x2,h2⟩:∃ x2,x2=((x1 / 4)&&& 3689348814741910323)+(x1&&& 3689348814741910323):=⟨_,rfl⟩;obtain⟨x3,h3⟩:∃ x3,x3=(x2 / 16+x2)&&& 1085102592571150095:=⟨_,rfl⟩;obtain⟨c0,c1,c2,c3,c4,c5,c6,c7,k0,k1,k2,k3,k4,k5,k6,k7,hx3,hcnt⟩:=ones_eq f x x1 x2 x3 hx h1 h2 h3;obtain⟨x4,x5,x6,h4,h5,h6,l6,m6⟩:=yzcw c0 c1 c2 c3 c4 c5 c6 c7 x3 k0 k1 k2 k3 k4 k5 k6 k7 hx3
 have l3:x3+x3 / 256<=x6:=by rw [<-h4,h6,h5];clear h1 h2 h3 h4 h5 h6 hx3 hcnt;exact Nat.le_trans (Nat.le_add_right _ _) (Nat.le_add_right _ _)
 have l4:x4+x4 / 65536<=x6:=by rw [<-h5,h6];exact Nat.le_add_right _ _
 have e1:=yzcf x 2 6148914691236517205 (by decide) hlt;rw [<-h1]at e1;have e2:=yzcf x1 4 3689348814741910323 (by decide) e1.2;have b1:(x1 / 4)&&& 3689348814741910323<=3689348814741910323:=Nat.and_le_right;have b2:x1&&& 3689348814741910323<=3689348814741910323:=Nat.and_le_right
 have l2:x2 / 16+x2<18446744073709551616:=by clear h1 h3 h4 h5 h6 hx3 hcnt e1 e2 l3 l4;omega
 rw [<-h2]at e2
 have e3:bits .and .u64 (IntKind.u64.wrap ((x2:Int) / 16+(x2:Int))) 1085102592571150095=(x3:Int):=by
  have c:IntKind.u64.wrap ((x2:Int) / ((16:Nat):Int)+(x2:Int))=((x2 / 16+x2:Nat):Int):=by
   rw [<-Int.natCast_ediv,<-Int.natCast_add,xzeh _ l2]
  rw [h3];exact xzfd _ _ (x2 / 16+x2) 1085102592571150095 c rfl l2 (by decide)
 refine⟨x1,x2,x3,x4,x5,x6,e1.1,e2.1,e3,?_,?_,?_,?_⟩
 ·rw [h4];exact xzei x3 256 (Nat.lt_of_le_of_lt l3 (Nat.lt_trans l6 (by decide)))
 ·rw [h5];exact xzei x4 65536 (Nat.lt_of_le_of_lt l4 (Nat.lt_trans l6 (by decide)))
 ·rw [h6];exact xzei x5 4294967296 (by rw [<-h6];exact Nat.lt_trans l6 (by decide))
 ·have a:=xzkz x6 127 l6 (by decide)
  have w6:wrap64 (x6:Int)=(x6:Int):=by unfold wrap64;clear h1 h2 h3 h4 h5 h6 hx3 hcnt e1 e2 e3;omega
  rw [w6,hcnt,<-m6,<-nat_mask7];exact a
end
section
open Go.RowKit
theorem xzor (m:Nat->Bool)(w:World):
 (Instr.index 48 (setV m) (.int .i64 0)).run Tryz.prog w=.ok (.int .u64 (wd m 0:Nat)) w/\
 (Instr.index 48 (setV m) (.int .i64 1)).run Tryz.prog w=.ok (.int .u64 (wd m 1:Nat)) w/\
 (Instr.index 48 (setV m) (.int .i64 2)).run Tryz.prog w=.ok (.int .u64 (wd m 2:Nat)) w/\
 (Instr.index 48 (setV m) (.int .i64 3)).run Tryz.prog w=.ok (.int .u64 (wd m 3:Nat)) w:=
 ⟨by kernel_rfl,by kernel_rfl,by kernel_rfl,by kernel_rfl⟩
set_option maxHeartbeats 400000 in
theorem any_any (m n:Nat->Bool)(w:World):
 Calls Tryz.prog 121 #[setV m,setV n] w fun e w'=>e=.returned (setV (sOr m n))/\Below w.heap.size w w':=by
 have ix:=xzor n
 go_enter Tryz.func121,Tryz.ntmps121
 go_wp2;refine xzbl 5 ?_
 go_wp2_with(refine xzdd ?_;intro _ _)
 refine bodyPost_ret (v:=setV (sOr m n)) (by simp [results,Tryz.results121,go_sem,xzky]) rfl ⟨rfl,?_⟩;exact(((Below.refl _ _).alloc (Nat.le_refl _) _).alloc (by simp) _).alloc (by simp;omega) _
set_option maxHeartbeats 400000 in
theorem yzcx (m n:Nat->Bool)(w:World):
 Calls Tryz.prog 123 #[setV m,setV n] w fun e w'=>e=.returned (setV (sLess m n))/\Below w.heap.size w w':=by
 have ix:=xzor n
 go_enter Tryz.func123,Tryz.ntmps123
 go_wp2;refine xzbl 5 ?_
 go_wp2_with(refine xzdd ?_;intro _ _)
 refine bodyPost_ret (v:=setV (sLess m n)) (by simp [results,Tryz.results123,go_sem,xzjx]) rfl ⟨rfl,?_⟩;exact(((Below.refl _ _).alloc (Nat.le_refl _) _).alloc (by simp) _).alloc (by simp;omega) _
set_option maxHeartbeats 400000 in
theorem xzxy (x x1 x2 x3 x4 x5 x6 c:Nat)(w:World)
 (E1:IntKind.u64.wrap (bits .and .u64 ((x:Int) / 2) 6148914691236517205+bits .and .u64 (x:Int) 6148914691236517205)=(x1:Int))
 (E2:IntKind.u64.wrap (bits .and .u64 ((x1:Int) / 4) 3689348814741910323+bits .and .u64 (x1:Int) 3689348814741910323)=(x2:Int))
 (E3:bits .and .u64 (IntKind.u64.wrap ((x2:Int) / 16+(x2:Int))) 1085102592571150095=(x3:Int))
 (E4:IntKind.u64.wrap ((x3:Int)+(x3:Int) / 256)=(x4:Int))
 (E5:IntKind.u64.wrap ((x4:Int)+(x4:Int) / 65536)=(x5:Int))
 (E6:IntKind.u64.wrap ((x5:Int)+(x5:Int) / 4294967296)=(x6:Int))
 (E7:bits .and .i64 (wrap64 (x6:Int)) 127=(c:Int)):
 Calls Tryz.prog 74 #[.int .u64 x] w fun e w'=>e=.returned (.int .i64 c)/\w'=w:=by
 go_enter Tryz.func74,Tryz.ntmps74
 go_wp2;go_ret;exact⟨rfl,rfl⟩
theorem xzjz (m:Nat->Bool)(i:Nat)(w:World):
 Calls Tryz.prog 74 #[.int .u64 (wd m i:Nat)] w fun e w'=>e=.returned (.int .i64 (cntN (fun j=>m (64*i+j)) 64:Nat))/\w=w':=by
 obtain⟨x1,x2,x3,x4,x5,x6,e1,e2,e3,e4,e5,e6,e7⟩:=xzsv (fun j=>m (64*i+j)) (wd m i) rfl
 exact(xzxy _ _ _ _ _ _ _ _ w e1 e2 e3 e4 e5 e6 e7).mono fun _ _ h=>⟨h.1,h.2.symm⟩
set_option maxHeartbeats 400000 in
theorem xzxz (m:Nat->Bool)(w:World):
 Calls Tryz.prog 56 #[setV m] w fun e w'=>e=.returned (.int .i64 (cntN m 256:Nat))/\Below w.heap.size w w':=by
 have ix:=xzor m;have b0:=xzcr (fun j=>m (64*0+j)) 64;have b1:=xzcr (fun j=>m (64*1+j)) 64;have b2:=xzcr (fun j=>m (64*2+j)) 64;have b3:=xzcr (fun j=>m (64*3+j)) 64
 have hsum:cntN m 256=cntN (fun j=>m (64*0+j)) 64+cntN (fun j=>m (64*1+j)) 64+cntN (fun j=>m (64*2+j)) 64+cntN (fun j=>m (64*3+j)) 64:=by
  rw [show(256:Nat)=64+(64+(64+64))from rfl,xzcn,xzcn,xzcn]
  have e0:(fun j=>m (64*0+j))=m:=funext fun j=>by rw [show 64*0+j=j by omega]
  have e1:(fun j=>m (64*1+j))=fun j=>m (64+j):=funext fun j=>by rw [show 64*1+j=64+j by omega]
  have e2:(fun j=>m (64*2+j))=fun j=>m (64+(64+j)):=funext fun j=>by rw [show 64*2+j=64+(64+j)by omega]
  have e3:(fun j=>m (64*3+j))=fun j=>m (64+(64+(64+j))):=funext fun j=>by rw [show 64*3+j=64+(64+(64+j))by omega]
  rw [e0,e1,e2,e3];omega
 have o0:=xzjz m 0;have o1:=xzjz m 1;have o2:=xzjz m 2;have o3:=xzjz m 3;generalize cntN (fun j=>m (64*0+j)) 64=c0 at*;generalize cntN (fun j=>m (64*1+j)) 64=c1 at*;generalize cntN (fun j=>m (64*2+j)) 64=c2 at*;generalize cntN (fun j=>m (64*3+j)) 64=c3 at*;generalize cntN m 256=c at*;have H0:=zd o0;have H1:=zd o1;have H2:=zd o2;have H3:=zd o3;have Hs:=zd hsum;clear o0 o1 o2 o3 hsum
 go_enter Tryz.func56,Tryz.ntmps56
 go_wp2;refine xzbl 5 ?_
 go_wp2_with(first
  |(refine xzdd ?_;intro _ _)
  |(go_at_call_of 74 (Value.int .u64 (wd m 0:Nat));refine(H0.out _).mono ?_;rintro e w' ⟨rfl,rfl⟩)
  |(go_at_call_of 74 (Value.int .u64 (wd m 1:Nat));refine(H1.out _).mono ?_;rintro e w' ⟨rfl,rfl⟩)
  |(go_at_call_of 74 (Value.int .u64 (wd m 2:Nat));refine(H2.out _).mono ?_;rintro e w' ⟨rfl,rfl⟩)
  |(go_at_call_of 74 (Value.int .u64 (wd m 3:Nat));refine(H3.out _).mono ?_;rintro e w' ⟨rfl,rfl⟩))
 go_ret;refine⟨ret_int ?_,(Below.refl _ _).alloc (Nat.le_refl _) _⟩;have:=Hs.out;omega
def belowIs (n:Int)(w:World):Ending->World->Prop:=fun e w'=>e=.returned (setV (sBelow n))/\Below w.heap.size w w'
set_option maxHeartbeats 400000 in
theorem xzya (n:Int)(h:n<=0)(w:World):Calls Tryz.prog 124 #[.int .i64 n] w (belowIs n w):=by
 go_enter Tryz.func124,Tryz.ntmps124
 go_wp2
 all_goals refine xzbl 5 ?_
 all_goals go_wp2_with(refine xzdd ?_;intro _ _)
 all_goals refine bodyPost_ret (v:=setV (sBelow n)) (by simp [results,Tryz.results124,go_sem,xzbr n 0 (by omega),xzbr n 1 (by omega),xzbr n 2 (by omega),xzbr n 3 (by omega)]<;>(repeat' apply And.intro)<;>first|with_reducible exact(xzdn n n 0 (by omega) (by omega) (by omega)).trans (xzbr n 0 (by omega))|with_reducible exact xzoo) rfl ⟨rfl,?_⟩
 all_goals exact((Below.refl _ _).alloc (Nat.le_refl _) _).alloc (by simp) _
set_option maxHeartbeats 400000 in
theorem yzcy (n:Int)(h0:0<n)(h1:n<=64)(w:World):Calls Tryz.prog 124 #[.int .i64 n] w (belowIs n w):=by
 go_enter Tryz.func124,Tryz.ntmps124
 go_wp2
 all_goals refine xzbl 5 ?_
 all_goals go_wp2_with(refine xzdd ?_;intro _ _)
 all_goals refine bodyPost_ret (v:=setV (sBelow n)) (by simp [results,Tryz.results124,go_sem,xzbr n 1 (by omega),xzbr n 2 (by omega),xzbr n 3 (by omega)]<;>(repeat' apply And.intro)<;>first|with_reducible exact xzdn n n 0 (by omega) (by omega) (by omega)|with_reducible exact(xzdn n (n - 64) 1 (by omega) (by omega) (by omega)).trans (xzbr n 1 (by omega))|with_reducible exact xzoo) rfl ⟨rfl,?_⟩
 all_goals exact((Below.refl _ _).alloc (Nat.le_refl _) _).alloc (by simp) _
set_option maxHeartbeats 400000 in
theorem yzcz (n:Int)(h0:64<n)(h1:n<=128)(w:World):Calls Tryz.prog 124 #[.int .i64 n] w (belowIs n w):=by
 go_enter Tryz.func124,Tryz.ntmps124
 go_wp2
 all_goals refine xzbl 5 ?_
 all_goals go_wp2_with(refine xzdd ?_;intro _ _)
 all_goals refine bodyPost_ret (v:=setV (sBelow n)) (by simp [results,Tryz.results124,go_sem,xzbr n 2 (by omega),xzbr n 3 (by omega)]<;>(repeat' apply And.intro)<;>first|with_reducible exact xzcu n 0 (by omega)|with_reducible exact xzdn n (n - 64) 1 (by omega) (by omega) (by omega)|with_reducible exact(xzdn n (n - 128) 2 (by omega) (by omega) (by omega)).trans (xzbr n 2 (by omega))|with_reducible exact xzoo) rfl ⟨rfl,?_⟩
 all_goals exact((Below.refl _ _).alloc (Nat.le_refl _) _).alloc (by simp) _
set_option maxHeartbeats 400000 in
theorem yzda (n:Int)(h0:128<n)(h1:n<=192)(w:World):Calls Tryz.prog 124 #[.int .i64 n] w (belowIs n w):=by
 go_enter Tryz.func124,Tryz.ntmps124
 go_wp2
 all_goals refine xzbl 5 ?_
 all_goals go_wp2_with(refine xzdd ?_;intro _ _)
 all_goals refine bodyPost_ret (v:=setV (sBelow n)) (by simp [results,Tryz.results124,go_sem,xzbr n 3 (by omega)]<;>(repeat' apply And.intro)<;>first|with_reducible exact xzcu n 0 (by omega)|with_reducible exact xzcu n 1 (by omega)|with_reducible exact xzdn n (n - 128) 2 (by omega) (by omega) (by omega)|with_reducible exact(xzdn n (n - 192) 3 (by omega) (by omega) (by omega)).trans (xzbr n 3 (by omega))|with_reducible exact xzoo) rfl ⟨rfl,?_⟩
 all_goals exact((Below.refl _ _).alloc (Nat.le_refl _) _).alloc (by simp) _
set_option maxHeartbeats 400000 in
theorem yzdb (n:Int)(h0:192<n)(h1:n<=256)(w:World):Calls Tryz.prog 124 #[.int .i64 n] w (belowIs n w):=by
 go_enter Tryz.func124,Tryz.ntmps124
 go_wp2
 all_goals refine xzbl 5 ?_
 all_goals go_wp2_with(refine xzdd ?_;intro _ _)
 all_goals refine bodyPost_ret (v:=setV (sBelow n)) (by simp [results,Tryz.results124,go_sem]<;>(repeat' apply And.intro)<;>first|with_reducible exact xzcu n 0 (by omega)|with_reducible exact xzcu n 1 (by omega)|with_reducible exact xzcu n 2 (by omega)|with_reducible exact xzdn n (n - 192) 3 (by omega) (by omega) (by omega)) rfl ⟨rfl,?_⟩
 all_goals exact((Below.refl _ _).alloc (Nat.le_refl _) _).alloc (by simp) _
set_option maxHeartbeats 400000 in
theorem xzyb (n:Int)(h0:256<n)(h1:n<=9223372036854775807)(w:World):Calls Tryz.prog 124 #[.int .i64 n] w (belowIs n w):=by
 go_enter Tryz.func124,Tryz.ntmps124
 go_wp2
 all_goals refine xzbl 5 ?_
 all_goals go_wp2_with(refine xzdd ?_;intro _ _)
 all_goals refine bodyPost_ret (v:=setV (sBelow n)) (by simp [results,Tryz.results124,go_sem]<;>(repeat' apply And.intro)<;>first|with_reducible exact xzcu n 0 (by omega)|with_reducible exact xzcu n 1 (by omega)|with_reducible exact xzcu n 2 (by omega)|with_reducible exact xzcu n 3 (by omega)) rfl ⟨rfl,?_⟩
 all_goals exact((Below.refl _ _).alloc (Nat.le_refl _) _).alloc (by simp) _
theorem xzyc (n:Int)(hn:n<=9223372036854775807)(w:World):Calls Tryz.prog 124 #[.int .i64 n] w (belowIs n w):=by
 by_cases h:n<=0
 ·exact xzya n h w
 by_cases h1:n<=64
 ·exact yzcy n (by omega) h1 w
 by_cases h2:n<=128
 ·exact yzcz n (by omega) h2 w
 by_cases h3:n<=192
 ·exact yzda n (by omega) h3 w
 by_cases h4:n<=256
 ·exact yzdb n (by omega) h4 w
 ·exact xzyb n (by omega) hn w
end
section
open Go.RowKit
def ByteRow (w:World)(B:Nat)(A:Option Addr)(l:List Nat):Prop:=
 l≠[]->∃ b off,A=some ⟨b,off,none⟩/\b<B/\∀ (k x:Nat),l[k]? =some x->w.cell? ⟨b,off+k,none⟩=some (.int .u8 (x:Int))
theorem sOf_nil:sOf []=fun _=>false:=by funext b;simp [sOf]
theorem yzdc {l:List Nat}{k x:Nat}(h:l[k]? =some x)(b:Nat):sOf (l.take (k+1)) b=(sOf (l.take k) b||decide (b=x)):=by
 unfold sOf;rw [List.take_add_one,h]
 simp [Bool.decide_or]
theorem xzqw {m m':Nat->Bool}{x i:Nat}(h:∀ b,m' b=(m b||decide (b=x)))(hi:x / 64=i):bits .or .u64 (wd m i:Nat) (IntKind.u64.wrap (2^(x%64)))=(wd m' i:Int):=by
 have hp:2^(x%64)<2^64:=Nat.pow_lt_pow_right (by decide) (by omega)
 have e:IntKind.u64.wrap ((2:Int)^(x%64))=((2^(x%64):Nat):Int):=by
  have e2:((2:Int)^(x%64))=((2^(x%64):Nat):Int):=by rw [Int.natCast_pow];rfl
  rw [e2,IntKind.wrap_u64];generalize 2^(x%64)=p at*;omega
 rw [e,u64_or_nat _ _ (xzis _ _) hp];refine congrArg (fun n:Nat=>(n:Int)) (xzxw (Nat.or_lt_two_pow (n:=64) (xzis _ _) hp) fun j hj=>?_);rw [Nat.testBit_or,xzaw,Nat.testBit_two_pow,h]
 have:decide (x%64=j)=decide (64*i+j=x):=by rw [decide_eq_decide];omega
 rw [this];simp [hj]
theorem xzbn {m m':Nat->Bool}{x i:Nat}(h:∀ b,m' b=(m b||decide (b=x)))(hi:x / 64≠i):wd m i=wd m' i:=
 xzbh fun j hj=>by
  have: ¬ 64*i+j=x:=by omega
  rw [h];simp [this]
theorem xzos (i:Nat):wd (sOf []) i=0:=by
 have:=lowBits 0 i 0 (by decide) (fun j hj=>⟨fun h=>absurd h (by omega),fun h=>by omega⟩)
 have h2:wd (sOf []) i=wd (sBelow 0) i:=xzbh fun j _=>by simp [sOf,sBelow];omega
 rw [h2,<-this]
set_option maxHeartbeats 400000 in
theorem of_any (A:Option Addr)(c:Nat)(l:List Nat)(w:World)(hr:ByteRow w w.heap.size A l)(hl:∀ x∈l,x<256)(hn:l.length<=9223372036854775807):
 Calls Tryz.prog 122 #[.slice A l.length c] w fun e w'=>e=.returned (setV (sOf l))/\Below w.heap.size w w':=by
 go_enter Tryz.func122,Tryz.ntmps122
 go_wp2
 go_loopw [8] (fun i wr=>∃ k,k<=l.length/\i=.int .i64 (k:Nat)/\
  wr=(w.alloc (.cells #[.int .u64 0,.int .u64 0,.int .u64 0,.int .u64 0] 48)).alloc (.cells #[.int .u64 (wd (sOf (l.take k)) 0:Nat),.int .u64 (wd (sOf (l.take k)) 1:Nat),.int .u64 (wd (sOf (l.take k)) 2:Nat),.int .u64 (wd (sOf (l.take k)) 3:Nat)] 48))
  (fun i _=>l.length - (intOf i).toNat)
 case atStart=>
  refine⟨0,Nat.zero_le _,rfl,?_⟩;simp only [List.take_zero,xzos]
  rfl
 case round=>
  obtain⟨k,hk,rfl,rfl⟩:=hrel
  by_cases hlt:k<l.length
  ·obtain⟨b,off,rfl,hb,hcell⟩:=hr (by intro h;subst h;simp at hlt)
   have hx:=hl l[k] (List.getElem_mem hlt);have hg:l[k]? =some l[k]:=List.getElem?_eq_getElem hlt;have hc:=hcell k l[k] hg;have ht:=yzdc hg;clear hg;generalize l[k]=x at*
   have hne:b≠w.heap.size:=by omega
   have hne2:b≠w.heap.size+1:=by omega
   have HT:=zd ht;clear hr hl hcell ht
   have hcase:x / 64=0\/x / 64=1\/x / 64=2\/x / 64=3:=by omega
   rcases hcase with hq|hq|hq|hq
   ·have hqi:(x:Int) / 64=0:=by omega
    have HQ:=zd hq;clear hq;go_wp2;refine⟨⟨k+1,by omega,by go_num,?_⟩,by simp [intOf];omega⟩;rw [xzqw HT.out HQ.out,xzbn (i:=1) HT.out (by rw [HQ.out];decide),xzbn (i:=2) HT.out (by rw [HQ.out];decide),xzbn (i:=3) HT.out (by rw [HQ.out];decide)]
   ·have hqi:(x:Int) / 64=1:=by omega
    have HQ:=zd hq;clear hq;go_wp2;refine⟨⟨k+1,by omega,by go_num,?_⟩,by simp [intOf];omega⟩;rw [xzqw HT.out HQ.out,xzbn (i:=0) HT.out (by rw [HQ.out];decide),xzbn (i:=2) HT.out (by rw [HQ.out];decide),xzbn (i:=3) HT.out (by rw [HQ.out];decide)]
   ·have hqi:(x:Int) / 64=2:=by omega
    have HQ:=zd hq;clear hq;go_wp2;refine⟨⟨k+1,by omega,by go_num,?_⟩,by simp [intOf];omega⟩;rw [xzqw HT.out HQ.out,xzbn (i:=0) HT.out (by rw [HQ.out];decide),xzbn (i:=1) HT.out (by rw [HQ.out];decide),xzbn (i:=3) HT.out (by rw [HQ.out];decide)]
   ·have hqi:(x:Int) / 64=3:=by omega
    have HQ:=zd hq;clear hq;go_wp2;refine⟨⟨k+1,by omega,by go_num,?_⟩,by simp [intOf];omega⟩;rw [xzqw HT.out HQ.out,xzbn (i:=0) HT.out (by rw [HQ.out];decide),xzbn (i:=1) HT.out (by rw [HQ.out];decide),xzbn (i:=2) HT.out (by rw [HQ.out];decide)]
  ·have he:l.take k=l:=List.take_of_length_le (by omega)
   rw [he];clear hr hl;go_wp2;refine bodyPost_ret (v:=setV (sOf l)) (by simp [results,Tryz.results122,go_sem]) rfl ⟨rfl,?_⟩;exact((Below.refl _ _).alloc (Nat.le_refl _) _).alloc (by simp) _
theorem xzde (d:Nat)(xs ys:Array Value)(j:Nat)(js:List Nat)(a b:Int)(w:World)
 (ha:(part 46 xs (j*1)).run Tryz.prog w=.ok (.int .u64 a) w)(hb:(part 46 ys (j*1)).run Tryz.prog w=.ok (.int .u64 b) w):
 (Op.eqItems (d+1) 46 1 xs ys (j::js)).run Tryz.prog w=if a=b then(Op.eqItems (d+1) 46 1 xs ys js).run Tryz.prog w else .ok false w:=by
 have h64:=run_equalIn_int (P:=Tryz.prog) w d 46 .u64 .u64 a b Tryz.underlying46;simp only [Op.eqItems,Sem.run_bind,ha,hb,Result.andThen_ok,h64]
 by_cases h:a=b
 ·simp [h]
 ·have h2:(a==b)=false:=by simpa using h
  simp [h,h2]
theorem xzla (m n:Nat->Bool)(w:World):(binOp .eql 48 (setV m) (setV n)).run Tryz.prog w=.ok (.bool (setEq m n)) w:=by
 have hp0:∀ (k:Nat->Bool),(part 46 #[.int .u64 (wd k 0:Nat),.int .u64 (wd k 1:Nat),.int .u64 (wd k 2:Nat),.int .u64 (wd k 3:Nat)] (0*1)).run Tryz.prog w=.ok (.int .u64 (wd k 0:Nat)) w:=fun k=>by kernel_rfl
 have hp1:∀ (k:Nat->Bool),(part 46 #[.int .u64 (wd k 0:Nat),.int .u64 (wd k 1:Nat),.int .u64 (wd k 2:Nat),.int .u64 (wd k 3:Nat)] (1*1)).run Tryz.prog w=.ok (.int .u64 (wd k 1:Nat)) w:=fun k=>by kernel_rfl
 have hp2:∀ (k:Nat->Bool),(part 46 #[.int .u64 (wd k 0:Nat),.int .u64 (wd k 1:Nat),.int .u64 (wd k 2:Nat),.int .u64 (wd k 3:Nat)] (2*1)).run Tryz.prog w=.ok (.int .u64 (wd k 2:Nat)) w:=fun k=>by kernel_rfl
 have hp3:∀ (k:Nat->Bool),(part 46 #[.int .u64 (wd k 0:Nat),.int .u64 (wd k 1:Nat),.int .u64 (wd k 2:Nat),.int .u64 (wd k 3:Nat)] (3*1)).run Tryz.prog w=.ok (.int .u64 (wd k 3:Nat)) w:=fun k=>by kernel_rfl
 have e:(Op.equalIn 10000 48 (setV m) (setV n)).run Tryz.prog w=.ok (setEq m n) w:=by
  obtain⟨i,hi⟩:∃ i,Tryz.prog.info? 46=some i:=Option.isSome_iff_exists.1 (by kernel_rfl)
  have hc:Tryz.prog.cellsOf 46=1:=by kernel_rfl
  have h:=run_equalIn_array (P:=Tryz.prog) w 9999 #[.int .u64 (wd m 0:Nat),.int .u64 (wd m 1:Nat),.int .u64 (wd m 2:Nat),.int .u64 (wd m 3:Nat)]
   #[.int .u64 (wd n 0:Nat),.int .u64 (wd n 1:Nat),.int .u64 (wd n 2:Nat),.int .u64 (wd n 3:Nat)] Tryz.underlying48 hi
  rw [hc,show List.range 4=[0,1,2,3]from rfl]at h;rw [xzde 9998 _ _ 0 _ _ _ w (hp0 m) (hp0 n),xzde 9998 _ _ 1 _ _ _ w (hp1 m) (hp1 n),xzde 9998 _ _ 2 _ _ _ w (hp2 m) (hp2 n),xzde 9998 _ _ 3 _ _ _ w (hp3 m) (hp3 n)]at h;refine h.trans ?_;unfold setEq;simp only [Int.natCast_inj]
  by_cases h0:wd m 0=wd n 0
  ·by_cases h1:wd m 1=wd n 1
   ·by_cases h2:wd m 2=wd n 2
    ·by_cases h3:wd m 3=wd n 3
     ·rw [if_pos h0,if_pos h1,if_pos h2,if_pos h3,h0,h1,h2,h3];simp [Op.eqItems]
     ·rw [if_pos h0,if_pos h1,if_pos h2,if_neg h3];simp [h3]
    ·rw [if_pos h0,if_pos h1,if_neg h2];simp [h2]
   ·rw [if_pos h0,if_neg h1];simp [h1]
  ·rw [if_neg h0];simp [h0]
 have h2:=run_eql_struct (P:=Tryz.prog) w 48 #[.int .u64 (wd m 0:Nat),.int .u64 (wd m 1:Nat),.int .u64 (wd m 2:Nat),.int .u64 (wd m 3:Nat)]
  #[.int .u64 (wd n 0:Nat),.int .u64 (wd n 1:Nat),.int .u64 (wd n 2:Nat),.int .u64 (wd n 3:Nat)]
 refine h2.trans ?_;have e':(Op.equalIn 10000 48 (.agg #[.int .u64 (wd m 0:Nat),.int .u64 (wd m 1:Nat),.int .u64 (wd m 2:Nat),.int .u64 (wd m 3:Nat)]) (.agg #[.int .u64 (wd n 0:Nat),.int .u64 (wd n 1:Nat),.int .u64 (wd n 2:Nat),.int .u64 (wd n 3:Nat)])).run Tryz.prog w=.ok (setEq m n) w:=e;rw [e'];rfl
def BoxIs (g:Nat)(m:Nat->Bool)(w:World):Prop:=
 w.cell? ⟨g,0,none⟩=some (.int .u64 (wd m 0:Nat))/\w.cell? ⟨g,1,none⟩=some (.int .u64 (wd m 1:Nat))/\
 w.cell? ⟨g,2,none⟩=some (.int .u64 (wd m 2:Nat))/\w.cell? ⟨g,3,none⟩=some (.int .u64 (wd m 3:Nat))
theorem BoxIs.below {g:Nat}{m:Nat->Bool}{W W':World}(h:BoxIs g m W)(hb:Below W.heap.size W W')(hg:g<W.heap.size):BoxIs g m W':=
 ⟨(hb.cell (p:=⟨g,0,none⟩) hg).trans h.1,(hb.cell (p:=⟨g,1,none⟩) hg).trans h.2.1,(hb.cell (p:=⟨g,2,none⟩) hg).trans h.2.2.1,(hb.cell (p:=⟨g,3,none⟩) hg).trans h.2.2.2⟩
theorem xzyd {w W W':World}{g:Nat}{m:Nat->Bool}(h:Below w.heap.size w W/\g<W.heap.size/\W.cell? ⟨g,0,none⟩=some (.int .u64 (wd m 0:Nat))/\W.cell? ⟨g,1,none⟩=some (.int .u64 (wd m 1:Nat))/\
 W.cell? ⟨g,2,none⟩=some (.int .u64 (wd m 2:Nat))/\W.cell? ⟨g,3,none⟩=some (.int .u64 (wd m 3:Nat))) (hb:Below W.heap.size W W'):
 Below w.heap.size w W'/\g<W'.heap.size/\W'.cell? ⟨g,0,none⟩=some (.int .u64 (wd m 0:Nat))/\W'.cell? ⟨g,1,none⟩=some (.int .u64 (wd m 1:Nat))/\
  W'.cell? ⟨g,2,none⟩=some (.int .u64 (wd m 2:Nat))/\W'.cell? ⟨g,3,none⟩=some (.int .u64 (wd m 3:Nat)):=
 ⟨h.1.trans (hb.mono h.1.size),Nat.lt_of_lt_of_le h.2.1 hb.size,BoxIs.below h.2.2 hb h.2.1⟩
theorem of_one (x b c:Nat)(w:World)(hx:x<256)(hb:b<w.heap.size)(h0:w.cell? ⟨b,0,none⟩=some (.int .u8 (x:Int))):
 Calls Tryz.prog 122 #[.slice (some ⟨b,0,none⟩) 1 c] w fun e w'=>e=.returned (setV (sOf [x]))/\Below w.heap.size w w':=
 of_any (some ⟨b,0,none⟩) c [x] w (fun _=>⟨b,0,rfl,hb,fun k y hk=>by
  obtain⟨rfl,rfl⟩:k=0/\x=y:=by
   cases k with
   |zero=>simpa using hk
   |succ k=>simp at hk
  exact h0⟩) (by simpa using hx) (by simp)
set_option maxHeartbeats 400000 in
theorem has_any (m:Nat->Bool)(c:Nat)(hc:c<256)(w:World):
 Calls Tryz.prog 104 #[setV m,.int .u8 c] w fun e w'=>e=.returned (.bool (m c))/\Below w.heap.size w w':=by
 have hq:=xzla (sOr m (sOf [c])) m
 have hb:setEq (sOr m (sOf [c])) m=m c:=by
  rw [Bool.eq_iff_iff,setEq_iff]
  constructor
  ·intro h
   have:=h c hc
   simpa [sOr,sOf]using this
  ·intro h b _
   by_cases e:b=c
   ·subst e;simp [sOr,sOf,h]
   ·simp [sOr,sOf,e]
 rw [<-hb];have HB:=zd hb;clear hb
 go_enter Tryz.func104,Tryz.ntmps104
 go_wp2
 go_region_held3 (fun w'=>Below w.heap.size w w'/\w.heap.size<w'.heap.size/\w'.cell? ⟨w.heap.size,0,none⟩=some (.int .u64 (wd m 0:Nat))/\w'.cell? ⟨w.heap.size,1,none⟩=some (.int .u64 (wd m 1:Nat))/\
  w'.cell? ⟨w.heap.size,2,none⟩=some (.int .u64 (wd m 2:Nat))/\w'.cell? ⟨w.heap.size,3,none⟩=some (.int .u64 (wd m 3:Nat)))
  ((first
    |exact xzyd (by assumption) hb1
    |(refine⟨(by first|exact((Below.refl _ _).alloc (Nat.le_refl _) _).drew|exact(((Below.refl _ _).alloc (Nat.le_refl _) _).alloc (by simp) _).drew),?_,?_,?_,?_,?_⟩<;>go_simp<;>done)))
  ((first
    |(go_at_call 122;go_must(refine(of_one c _ _ _ hc (by simp) (by go_simp)).mono ?_);rintro e w1 ⟨rfl,hb1⟩)
    |(go_at_call 121;go_must(refine(any_any _ _ _).mono ?_);rintro e w1 ⟨rfl,hb1⟩)))
 have hB:Below w.heap.size w w1:=by
  have h:= ‹Below w.heap.size w w1/\_›;exact h.1
 go_wp2;go_ret;exact⟨rfl,hB⟩
end
end Go.Proofs.YtdjpphjpnkfeiaaGreatDoor
