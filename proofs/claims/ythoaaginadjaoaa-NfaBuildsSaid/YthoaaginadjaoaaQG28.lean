/-
 WHAT hackleref04's Ends ANSWERS at a ReRep, where it answers rightly at its Sub; what it answers at every tree that may be. Condition: each node of the tree may be; the text has at most 2^30 bytes.
-/
import Derived.Deep.RegionHeld
import Derived.Test.YthoaaginadjaoaaQG27
namespace Go.Proofs.Ythoaaginadjaoaa
section
open Go.RowKit
theorem xziw (E:(Nat->Bool)->Nat->Bool)(lo:Nat)(f:Nat->Bool)(i:Nat):repTo E lo 0 f i=false:=rfl
set_option maxHeartbeats 8000000 in
set_option maxRecDepth 20000 in
theorem ends_k4 (s:ByteArray)(hs30:s.size<=1073741824)(n:Nat)(hn:n=s.size+1)(m:Nat->Bool)(l:List Tree)(lo hi:Int)(A:Option Addr)(c:Nat)(hc:l.length<=c/\c<=9223372036854775807)(w:World)(g0:Nat)(f:Nat->Bool)(hf0:BlkIs w g0 4 (bl n f))
 (hs:l≠[]->∃ b o,A=some ⟨b,o,none⟩/\b<w.heap.size/\∀ (i:Nat) (h:i<l.length),∃ cs:List Value,Tree.At w l[i] (.agg cs.toArray)/\cs.length=8/\w.rangeAt b (o+i*8) cs)
 (ih:∀ t∈l,∀ (v:Value) (w:World) (g0:Nat) (f:Nat->Bool),Tree.At w t v->BlkIs w g0 4 (bl n f)->Calls Try.prog 53 #[v,.string s,.slice (some ⟨g0,0,none⟩) n n] w (EndsIs n (t.ends s.data.toList f) w))
 (hl:l.length=1)(hlo:0<=lo/\lo<=64/\(hi= -1\/lo<=hi/\hi<=64)):
 Calls Try.prog 53 #[reV 4 m A l.length c lo hi,.string s,.slice (some ⟨g0,0,none⟩) n n] w (EndsIs n (repTo (headEnds s.data.toList l) lo.toNat (mostOf s.data.toList lo hi+1) f) w):=by
 have hw0:IntKind.i64.wrap ((s.size:Int)+1)=((n:Nat):Int):=by rw [IntKind.wrap_i64];omega
 have hmk:=fun w=>xzbd n (by omega) w
 have hg0:=hf0.lt;have HB0:=zd (xzdb 4 m A l.length c n lo hi w);have HF0:=zd hf0;have HN:=zd hn;have HS:=zd hs;have IH:=zd ih;clear hs ih;clear hf0 hn;unfold EndsIs at*;unfold reV reL at*
 obtain⟨t,rfl⟩:∃ t,l=[t]:=by
  match l,hl with
  |[t],_=>exact⟨t,rfl⟩
 obtain⟨b,o,rfl,hbw,hg⟩:=HS.out (by simp);obtain⟨cs,hcat,hlen,hrow⟩:=hg 0 (by simp);obtain⟨A',n',c',rfl⟩:=hcat.eight;rw [show o+0*8=o by omega]at hrow;simp only [List.getElem_cons_zero]at hcat hrow
 have hrows:=fun(u:World) (hu:Below w.heap.size w u)=>xzaj hrow hu
 have hcalls:=fun(u:World) (hu:Below w.heap.size w u) (g:Nat) (f':Nat->Bool) (hf':BlkIs u g 4 (bl n f'))=>IH.out t (by simp) _ u g f' (hcat.step hu) hf'
 unfold reL at hcalls
 have hE:headEnds s.data.toList [t]=t.ends s.data.toList:=by unfold headEnds;rfl
 rw [hE];generalize t.ends s.data.toList=E at*;obtain⟨lo',rfl⟩:∃ z:Nat,lo=(z:Int):=⟨lo.toNat,by omega⟩;rw [Int.toNat_natCast]
 have hlo64:lo'<=64:=by omega
 obtain⟨M,hM⟩:∃ M,mostOf s.data.toList (lo':Int) hi=M:=⟨_,rfl⟩;rw [hM];have hlen2:s.data.toList.length=s.size:=rfl
 have hMle:M<=1073742000:=by
  rw [<-hM];unfold mostOf
  split<;>omega
 have HRW:=zd hrows;have HCS:=zd hcalls
 have hM2:(hi<0/\M=lo'+s.size+1)\/(0<=hi/\hi=(M:Int)):=by
  rw [<-hM];unfold mostOf
  split<;>omega
 have hloM:lo'<=M:=by omega
 clear hrow hrows hcat hcalls hg hlen hM hlen2 hl hE hc
 rcases hM2 with⟨hneg,hM2⟩|⟨hneg,hM2⟩
 ·have e0:decide (hi<0)=true:=by simp [hneg]
  have e1:IntKind.i64.wrap ((lo':Int)+(s.size:Int))=(lo':Int)+(s.size:Int):=by rw [IntKind.wrap_i64];omega
  have e2:IntKind.i64.wrap ((lo':Int)+(s.size:Int)+1)=(M:Int):=by rw [IntKind.wrap_i64];omega
  clear hM2
  go_enter Try.func53,Try.ntmps53
  go_wp2;clear hmk hw0 e0
  go_loopw [13,15] (fun x i wr=>∃ (t gn:Nat),x=.slice (some ⟨gn,0,none⟩) n n/\i=.int .i64 t/\t<=M+1/\Hid (Below w.heap.size w wr/\BlkIs wr w.heap.size 39 (reL 4 m (some ⟨b,o,none⟩) 1 c (lo':Int) hi).toArray/\BlkIs wr (w.heap.size+1) 4 (bl n (repTo E lo' t f))/\gn≠w.heap.size+1/\(t<=M->BlkIs wr gn 4 (bl n (iterE E t f))))) (fun _ i _=>M+1 - (intOf i).toNat)
  case atStart=>
   have hb:=HB0.out;exact⟨0,g0,rfl,rfl,Nat.zero_le _,zd ⟨hb.1,hb.2.1,by rw [xzbi (g:=fun _=>false) (fun i _=>xziw E lo' f i)];exact hb.2.2,by omega,fun _=>(HF0.out.alloc _).alloc _⟩⟩
  case round=>
   obtain⟨t,gn,rfl,rfl,ht,HH⟩:=hrel;have hgn:=HH.out.2.2.2.1
   by_cases htM:t<=M
   ·have hdl:decide ((t:Int)<=(M:Int))=true:=by simp;omega
    have hk1:IntKind.i64.wrap ((t:Int)+1)=((t+1:Nat):Int):=by rw [IntKind.wrap_i64];omega
    obtain⟨X,hX⟩:∃ X,iterE E t f=X:=⟨_,rfl⟩;have HX:=zd hX;have HR:=zd (fun i=>xzig E lo' t f i);have H1:=zd (show Below w.heap.size w wr/\BlkIs wr w.heap.size 39 (reL 4 m (some ⟨b,o,none⟩) 1 c (lo':Int) hi).toArray/\BlkIs wr (w.heap.size+1) 4 (bl n (repTo E lo' t f))/\BlkIs wr gn 4 (bl n X)from⟨HH.out.1,HH.out.2.1,HH.out.2.2.1,by rw [<-hX];exact HH.out.2.2.2.2 htM⟩);clear hX;have c6:wr.cell? ⟨w.heap.size,6,none⟩=some (.int .i64 (lo':Int)):=H1.out.2.1.cell 6
    by_cases hge:lo'<=t
    ·have hgd:decide ((t:Int)>=(lo':Int))=true:=by simp;omega
     generalize ha:repTo E lo' t f=a at*;have HA:=zd ha;clear ha;go_wp2;clear c6 hgd hdl
     go_loopw [16] (fun i wr=>∃ (k:Nat),i=.int .i64 k/\k<=n/\Hid (Below w.heap.size w wr/\BlkIs wr w.heap.size 39 (reL 4 m (some ⟨b,o,none⟩) 1 c (lo':Int) hi).toArray/\BlkIs wr (w.heap.size+1) 4 (bl n (mix k a X))/\BlkIs wr gn 4 (bl n X))) (fun i _=>n - (intOf i).toNat)
     case atStart=>
      exact⟨0,rfl,Nat.zero_le _,zd ⟨H1.out.1,H1.out.2.1,by rw [xzkd];exact H1.out.2.2.1,H1.out.2.2.2⟩⟩
     case round=>
      obtain⟨k,rfl,hk,H3⟩:=hrel
      by_cases hkn:k<n
      ·have hdk:decide ((k:Int)<(n:Int))=true:=by simp;omega
       have hk2:IntKind.i64.wrap ((k:Int)+1)=((k+1:Nat):Int):=by have:=HN.out;rw [IntKind.wrap_i64];omega
       have x1:=xzao H3.out.2.2.1 hkn;rw [xzuu]at x1;have x2:=xzao H3.out.2.2.2 hkn;have x3:=H3.out.2.2.1.frozen k;have hms:=xzke k a X;generalize a k=p at*;generalize X k=q at*;have HMS:=zd hms;clear hms
       cases p
       all_goals (
        go_wp2;refine⟨⟨k+1,by go_num,hkn,zd ⟨H3.out.1.setCell (p:=⟨_,_,none⟩) (by simp) _,H3.out.2.1.far (by simp) _,?_,H3.out.2.2.2.far (by simpa using hgn) _⟩⟩,by simp [intOf];omega⟩;rw [<-HMS.out,<-xzgq]
        exact H3.out.2.2.1.put _ _)
      ·have hdk:decide ((k:Int)<(n:Int))=false:=by simp;omega
       obtain rfl:n=k:=by omega
       have h3:=H3.out.2.2.1;rw [xzpi,xzbi (g:=repTo E lo' (t+1) f) (fun i _=>by rw [HR.out i,decide_eq_true hge,Bool.true_and,HX.out];rfl)]at h3;have H4:=zd (And.intro H3.out.1 (And.intro H3.out.2.1 (And.intro h3 H3.out.2.2.2)));clear h3 H3
       by_cases htm:t<M
       ·have htd:decide ((t:Int)<(M:Int))=true:=by simp;omega
        obtain⟨r0,r1,r2,r3,r4,r5,r6,r7⟩:=HRW.out _ H4.out.1;obtain⟨_,_,_,_,_,c5,_,_⟩:=(show BlkIs _ _ _ #[_,_,_,_,_,_,_,_]from H4.out.2.1).eight;have hcall:=HCS.out _ H4.out.1 gn X H4.out.2.2.2;have HC:=zd hcall;clear hcall
        go_wp2_with fail
        refine HC.out.mono ?_;rintro e w1 ⟨g1,rfl,hg1,hbl1,hb1⟩;have hz:=H4.out.1.size;have hlt:=H4.out.2.2.1.lt
        have HB1:=zd (show Below w.heap.size w w1/\BlkIs w1 w.heap.size 39 (reL 4 m (some ⟨b,o,none⟩) 1 c (lo':Int) hi).toArray/\BlkIs w1 (w.heap.size+1) 4 (bl n (repTo E lo' (t+1) f))/\g1≠w.heap.size+1/\(t+1<=M->BlkIs w1 g1 4 (bl n (iterE E (t+1) f)))from
         ⟨H4.out.1.trans (hb1.mono hz),H4.out.2.1.step hb1,H4.out.2.2.1.step hb1,by omega,fun _=>by rw [show iterE E (t+1) f=E X from congrArg E HX.out];exact hbl1⟩)
        clear hg1 hbl1 hb1 hz hlt;go_wp2;exact⟨⟨t+1,g1,rfl,by go_num,by omega,HB1⟩,by simp [intOf];omega⟩
       ·have htd:decide ((t:Int)<(M:Int))=false:=by simp;omega
        have HB1:=zd (show Below w.heap.size w wr/\BlkIs wr w.heap.size 39 (reL 4 m (some ⟨b,o,none⟩) 1 c (lo':Int) hi).toArray/\BlkIs wr (w.heap.size+1) 4 (bl n (repTo E lo' (t+1) f))/\gn≠w.heap.size+1/\(t+1<=M->BlkIs wr gn 4 (bl n (iterE E (t+1) f)))from
         ⟨H4.out.1,H4.out.2.1,H4.out.2.2.1,hgn,fun h=>absurd h (by omega)⟩)
        go_wp2;exact⟨⟨t+1,gn,rfl,by go_num,by omega,HB1⟩,by simp [intOf];omega⟩
    ·have hgd:decide ((t:Int)>=(lo':Int))=false:=by simp;omega
     have h3:=H1.out.2.2.1;rw [xzbi (g:=repTo E lo' (t+1) f) (fun i _=>by rw [HR.out i,decide_eq_false hge,Bool.false_and,Bool.or_false])]at h3;have H4:=zd (And.intro H1.out.1 (And.intro H1.out.2.1 (And.intro h3 H1.out.2.2.2)));clear h3 H1
     have htm:t<M:=by omega
     have htd:decide ((t:Int)<(M:Int))=true:=by simp;omega
     obtain⟨r0,r1,r2,r3,r4,r5,r6,r7⟩:=HRW.out _ H4.out.1;obtain⟨_,_,_,_,_,c5,_,_⟩:=(show BlkIs _ _ _ #[_,_,_,_,_,_,_,_]from H4.out.2.1).eight;have hcall:=HCS.out _ H4.out.1 gn X H4.out.2.2.2;have HC:=zd hcall;clear hcall
     go_wp2_with fail
     refine HC.out.mono ?_;rintro e w1 ⟨g1,rfl,hg1,hbl1,hb1⟩;have hz:=H4.out.1.size;have hlt:=H4.out.2.2.1.lt
     have HB1:=zd (show Below w.heap.size w w1/\BlkIs w1 w.heap.size 39 (reL 4 m (some ⟨b,o,none⟩) 1 c (lo':Int) hi).toArray/\BlkIs w1 (w.heap.size+1) 4 (bl n (repTo E lo' (t+1) f))/\g1≠w.heap.size+1/\(t+1<=M->BlkIs w1 g1 4 (bl n (iterE E (t+1) f)))from
      ⟨H4.out.1.trans (hb1.mono hz),H4.out.2.1.step hb1,H4.out.2.2.1.step hb1,by omega,fun _=>by rw [show iterE E (t+1) f=E X from congrArg E HX.out];exact hbl1⟩)
     clear hg1 hbl1 hb1 hz hlt;go_wp2;exact⟨⟨t+1,g1,rfl,by go_num,by omega,HB1⟩,by simp [intOf];omega⟩
   ·have hdl:decide ((t:Int)<=(M:Int))=false:=by simp;omega
    obtain rfl:t=M+1:=by omega
    have H1:=HH;clear HH;go_wp2;go_ret;exact⟨_,rfl,by omega,H1.out.2.2.1,H1.out.1⟩
 ·have e0:decide (hi<0)=false:=by simp;omega
  subst hM2
  go_enter Try.func53,Try.ntmps53
  go_wp2;clear hmk hw0 e0
  go_loopw [13,15] (fun x i wr=>∃ (t gn:Nat),x=.slice (some ⟨gn,0,none⟩) n n/\i=.int .i64 t/\t<=M+1/\Hid (Below w.heap.size w wr/\BlkIs wr w.heap.size 39 (reL 4 m (some ⟨b,o,none⟩) 1 c (lo':Int) (M:Int)).toArray/\BlkIs wr (w.heap.size+1) 4 (bl n (repTo E lo' t f))/\gn≠w.heap.size+1/\(t<=M->BlkIs wr gn 4 (bl n (iterE E t f))))) (fun _ i _=>M+1 - (intOf i).toNat)
  case atStart=>
   have hb:=HB0.out;exact⟨0,g0,rfl,rfl,Nat.zero_le _,zd ⟨hb.1,hb.2.1,by rw [xzbi (g:=fun _=>false) (fun i _=>xziw E lo' f i)];exact hb.2.2,by omega,fun _=>(HF0.out.alloc _).alloc _⟩⟩
  case round=>
   obtain⟨t,gn,rfl,rfl,ht,HH⟩:=hrel;have hgn:=HH.out.2.2.2.1
   by_cases htM:t<=M
   ·have hdl:decide ((t:Int)<=(M:Int))=true:=by simp;omega
    have hk1:IntKind.i64.wrap ((t:Int)+1)=((t+1:Nat):Int):=by rw [IntKind.wrap_i64];omega
    obtain⟨X,hX⟩:∃ X,iterE E t f=X:=⟨_,rfl⟩;have HX:=zd hX;have HR:=zd (fun i=>xzig E lo' t f i);have H1:=zd (show Below w.heap.size w wr/\BlkIs wr w.heap.size 39 (reL 4 m (some ⟨b,o,none⟩) 1 c (lo':Int) (M:Int)).toArray/\BlkIs wr (w.heap.size+1) 4 (bl n (repTo E lo' t f))/\BlkIs wr gn 4 (bl n X)from⟨HH.out.1,HH.out.2.1,HH.out.2.2.1,by rw [<-hX];exact HH.out.2.2.2.2 htM⟩);clear hX;have c6:wr.cell? ⟨w.heap.size,6,none⟩=some (.int .i64 (lo':Int)):=H1.out.2.1.cell 6
    by_cases hge:lo'<=t
    ·have hgd:decide ((t:Int)>=(lo':Int))=true:=by simp;omega
     generalize ha:repTo E lo' t f=a at*;have HA:=zd ha;clear ha;go_wp2;clear c6 hgd hdl
     go_loopw [16] (fun i wr=>∃ (k:Nat),i=.int .i64 k/\k<=n/\Hid (Below w.heap.size w wr/\BlkIs wr w.heap.size 39 (reL 4 m (some ⟨b,o,none⟩) 1 c (lo':Int) (M:Int)).toArray/\BlkIs wr (w.heap.size+1) 4 (bl n (mix k a X))/\BlkIs wr gn 4 (bl n X))) (fun i _=>n - (intOf i).toNat)
     case atStart=>
      exact⟨0,rfl,Nat.zero_le _,zd ⟨H1.out.1,H1.out.2.1,by rw [xzkd];exact H1.out.2.2.1,H1.out.2.2.2⟩⟩
     case round=>
      obtain⟨k,rfl,hk,H3⟩:=hrel
      by_cases hkn:k<n
      ·have hdk:decide ((k:Int)<(n:Int))=true:=by simp;omega
       have hk2:IntKind.i64.wrap ((k:Int)+1)=((k+1:Nat):Int):=by have:=HN.out;rw [IntKind.wrap_i64];omega
       have x1:=xzao H3.out.2.2.1 hkn;rw [xzuu]at x1;have x2:=xzao H3.out.2.2.2 hkn;have x3:=H3.out.2.2.1.frozen k;have hms:=xzke k a X;generalize a k=p at*;generalize X k=q at*;have HMS:=zd hms;clear hms
       cases p
       all_goals (
        go_wp2;refine⟨⟨k+1,by go_num,hkn,zd ⟨H3.out.1.setCell (p:=⟨_,_,none⟩) (by simp) _,H3.out.2.1.far (by simp) _,?_,H3.out.2.2.2.far (by simpa using hgn) _⟩⟩,by simp [intOf];omega⟩;rw [<-HMS.out,<-xzgq]
        exact H3.out.2.2.1.put _ _)
      ·have hdk:decide ((k:Int)<(n:Int))=false:=by simp;omega
       obtain rfl:n=k:=by omega
       have h3:=H3.out.2.2.1;rw [xzpi,xzbi (g:=repTo E lo' (t+1) f) (fun i _=>by rw [HR.out i,decide_eq_true hge,Bool.true_and,HX.out];rfl)]at h3;have H4:=zd (And.intro H3.out.1 (And.intro H3.out.2.1 (And.intro h3 H3.out.2.2.2)));clear h3 H3
       by_cases htm:t<M
       ·have htd:decide ((t:Int)<(M:Int))=true:=by simp;omega
        obtain⟨r0,r1,r2,r3,r4,r5,r6,r7⟩:=HRW.out _ H4.out.1;obtain⟨_,_,_,_,_,c5,_,_⟩:=(show BlkIs _ _ _ #[_,_,_,_,_,_,_,_]from H4.out.2.1).eight;have hcall:=HCS.out _ H4.out.1 gn X H4.out.2.2.2;have HC:=zd hcall;clear hcall
        go_wp2_with fail
        refine HC.out.mono ?_;rintro e w1 ⟨g1,rfl,hg1,hbl1,hb1⟩;have hz:=H4.out.1.size;have hlt:=H4.out.2.2.1.lt
        have HB1:=zd (show Below w.heap.size w w1/\BlkIs w1 w.heap.size 39 (reL 4 m (some ⟨b,o,none⟩) 1 c (lo':Int) (M:Int)).toArray/\BlkIs w1 (w.heap.size+1) 4 (bl n (repTo E lo' (t+1) f))/\g1≠w.heap.size+1/\(t+1<=M->BlkIs w1 g1 4 (bl n (iterE E (t+1) f)))from
         ⟨H4.out.1.trans (hb1.mono hz),H4.out.2.1.step hb1,H4.out.2.2.1.step hb1,by omega,fun _=>by rw [show iterE E (t+1) f=E X from congrArg E HX.out];exact hbl1⟩)
        clear hg1 hbl1 hb1 hz hlt;go_wp2;exact⟨⟨t+1,g1,rfl,by go_num,by omega,HB1⟩,by simp [intOf];omega⟩
       ·have htd:decide ((t:Int)<(M:Int))=false:=by simp;omega
        have HB1:=zd (show Below w.heap.size w wr/\BlkIs wr w.heap.size 39 (reL 4 m (some ⟨b,o,none⟩) 1 c (lo':Int) (M:Int)).toArray/\BlkIs wr (w.heap.size+1) 4 (bl n (repTo E lo' (t+1) f))/\gn≠w.heap.size+1/\(t+1<=M->BlkIs wr gn 4 (bl n (iterE E (t+1) f)))from
         ⟨H4.out.1,H4.out.2.1,H4.out.2.2.1,hgn,fun h=>absurd h (by omega)⟩)
        go_wp2;exact⟨⟨t+1,gn,rfl,by go_num,by omega,HB1⟩,by simp [intOf];omega⟩
    ·have hgd:decide ((t:Int)>=(lo':Int))=false:=by simp;omega
     have h3:=H1.out.2.2.1;rw [xzbi (g:=repTo E lo' (t+1) f) (fun i _=>by rw [HR.out i,decide_eq_false hge,Bool.false_and,Bool.or_false])]at h3;have H4:=zd (And.intro H1.out.1 (And.intro H1.out.2.1 (And.intro h3 H1.out.2.2.2)));clear h3 H1
     have htm:t<M:=by omega
     have htd:decide ((t:Int)<(M:Int))=true:=by simp;omega
     obtain⟨r0,r1,r2,r3,r4,r5,r6,r7⟩:=HRW.out _ H4.out.1;obtain⟨_,_,_,_,_,c5,_,_⟩:=(show BlkIs _ _ _ #[_,_,_,_,_,_,_,_]from H4.out.2.1).eight;have hcall:=HCS.out _ H4.out.1 gn X H4.out.2.2.2;have HC:=zd hcall;clear hcall
     go_wp2_with fail
     refine HC.out.mono ?_;rintro e w1 ⟨g1,rfl,hg1,hbl1,hb1⟩;have hz:=H4.out.1.size;have hlt:=H4.out.2.2.1.lt
     have HB1:=zd (show Below w.heap.size w w1/\BlkIs w1 w.heap.size 39 (reL 4 m (some ⟨b,o,none⟩) 1 c (lo':Int) (M:Int)).toArray/\BlkIs w1 (w.heap.size+1) 4 (bl n (repTo E lo' (t+1) f))/\g1≠w.heap.size+1/\(t+1<=M->BlkIs w1 g1 4 (bl n (iterE E (t+1) f)))from
      ⟨H4.out.1.trans (hb1.mono hz),H4.out.2.1.step hb1,H4.out.2.2.1.step hb1,by omega,fun _=>by rw [show iterE E (t+1) f=E X from congrArg E HX.out];exact hbl1⟩)
     clear hg1 hbl1 hb1 hz hlt;go_wp2;exact⟨⟨t+1,g1,rfl,by go_num,by omega,HB1⟩,by simp [intOf];omega⟩
   ·have hdl:decide ((t:Int)<=(M:Int))=false:=by simp;omega
    obtain rfl:t=M+1:=by omega
    have H1:=HH;clear HH;go_wp2;go_ret;exact⟨_,rfl,by omega,H1.out.2.2.1,H1.out.1⟩
theorem xzmw (s:ByteArray)(hs30:s.size<=1073741824)(n:Nat)(hn:n=s.size+1):∀ (T:Tree) (v:Value) (w:World) (g0:Nat) (f:Nat->Bool),T.ok=true->T.At w v->BlkIs w g0 4 (bl n f)->
 Calls Try.prog 53 #[v,.string s,.slice (some ⟨g0,0,none⟩) n n] w (EndsIs n (T.ends s.data.toList f) w):=by
 intro T
 induction T using Tree.ind with
 |h k m l lo hi ih=>
  intro v w g0 f hok hat hf0;obtain⟨A,c,rfl,hc,hs⟩:=hat.open;obtain⟨hoks,hnn⟩:=xzcb hok;have hkind:=xzas hnn
  have ih2:=fun t ht v w g0 f=>ih t ht v w g0 f (hoks t ht)
  unfold Tree.ends
  rcases hkind with⟨rfl,hl⟩|⟨rfl,hl⟩|⟨rfl,hl⟩|⟨rfl,hl⟩|⟨rfl,hl,hlo⟩
  ·rw [if_pos rfl]
   exact ends_k0 s hs30 n hn m l lo hi A c w g0 f hf0
  ·rw [if_neg (by decide),if_pos rfl]
   exact ends_k1 s hs30 n hn m l lo hi A c w g0 f hf0
  ·rw [if_neg (by decide),if_neg (by decide),if_pos rfl]
   exact ends_k2 s hs30 n hn m l lo hi A c hc w g0 f hf0 hs ih2
  ·rw [if_neg (by decide),if_neg (by decide),if_neg (by decide),if_pos rfl]
   exact ends_k3 s hs30 n hn m l lo hi A c hc w g0 f hf0 hs ih2
  ·rw [if_neg (by decide),if_neg (by decide),if_neg (by decide),if_neg (by decide)]
   exact ends_k4 s hs30 n hn m l lo hi A c hc w g0 f hf0 hs ih2 hl hlo
end
section
open Go.RowKit
def atP (p:Nat):Nat->Bool:=updS (fun _=>false) p true
set_option maxHeartbeats 2000000 in
theorem xzsf (s:ByteArray)(hs30:s.size<=1073741824)(n:Nat)(hn:n=s.size+1)(p:Nat)(hp:p<n)(w:World):
 Calls Try.prog 54 #[.string s,.int .i64 p] w (EndsIs n (atP p) w):=by
 have hw0:IntKind.i64.wrap ((s.size:Int)+1)=((n:Nat):Int):=by rw [IntKind.wrap_i64];omega
 have hmk:=fun w=>xzbd n (by omega) w
 have hnew:=BlkIs.new w 4 (bl n (fun _=>false));have d1:=xzao hnew hp;have d2:=hnew.frozen p
 have hpi:(p:Int)<(n:Int):=by omega
 have HNW:=zd hnew;clear hnew hn;unfold EndsIs
 go_enter Try.func54,Try.ntmps54
 go_wp2;go_ret;refine⟨_,rfl,Nat.le_refl _,?_,(Below.refl _ _).alloc (Nat.le_refl _) _⟩;rw [xzgq];exact BlkIs.new _ _ _
def Tree.takes (s:List UInt8)(T:Tree):Bool:=T.ends s (atP 0) s.length
theorem xzix {P:Program}{o:Oper}{a:Act}{w:World}{v:Value}(t:TypeId)(x:Operand)(p:Value)(ho:o.op=.load t x)(hx:a.eval x=p)(h:(Instr.loadAt t p).run P w=.ok v w):(execOp a.eval o).run P w=.ok (.value v) w:=by
 unfold execOp;simp only [ho,hx,Sem.run_bind,Sem.run_pure,h,Result.andThen_ok]
theorem loadRe {w:World}{g:Nat}{k:Int}{m:Nat->Bool}{A:Option Addr}{q c:Nat}{lo hi:Int}(h:BlkIs w g 39 (reL k m A q c lo hi).toArray):(Instr.loadAt 39 (.pointer (some ⟨g,0,none⟩))).run Try.prog w=.ok (reV k m A q c lo hi) w:=by
 unfold reL at h;obtain⟨c0,c1,c2,c3,c4,c5,c6,c7⟩:=h.eight;unfold reV reL;go_simp
set_option maxHeartbeats 4000000 in
theorem xzkf (T:Tree)(v:Value)(s:ByteArray)(hs30:s.size<=1073741824)(w:World)(hok:T.ok=true)(hat:T.At w v):
 Calls Try.prog 43 #[v,.string s] w fun e w'=>e=.returned (.bool (T.takes s.data.toList))/\Below w.heap.size w w':=by
 obtain⟨n,hn⟩:∃ n,n=s.size+1:=⟨_,rfl⟩;have HAt:=zd (fun W=>xzsf s hs30 n hn 0 (by omega) W);have HEn:=zd (fun W (g0:Nat) (h:T.At W v) (f:Nat->Bool) (hf:BlkIs W g0 4 (bl n f))=>xzmw s hs30 n hn T v W g0 f hok h hf);have htk:T.takes s.data.toList=T.ends s.data.toList (atP 0) s.size:=rfl
 have hlt:s.size<n:=by omega
 have hli:(s.size:Int)<(n:Int):=by omega
 rw [htk]
 cases T with
 |node k m l lo hi=>
 have HAT:=zd hat;obtain⟨A,c,rfl,_,_⟩:=hat.open;have hB0:Below w.heap.size w (w.alloc (.cells (reL k m A l.length c lo hi).toArray 39)):=(Below.refl _ _).alloc (Nat.le_refl _) _;have hX0:=BlkIs.new w 39 (reL k m A l.length c lo hi).toArray;have HN:=zd hn;clear hat hn htk;unfold EndsIs reV reL at*
 go_enter Try.func43,Try.ntmps43
 go_wp2_with fail
 have HB:=zd hB0;have HX:=zd hX0;clear hB0 hX0;generalize w.alloc (.cells #[.int .i64 k,.int .u64 (wd m 0:Nat),.int .u64 (wd m 1:Nat),.int .u64 (wd m 2:Nat),.int .u64 (wd m 3:Nat),.slice A l.length c,.int .i64 lo,.int .i64 hi] 39)=w2 at*;refine wp_region_held_drew (S:=fun u=>Below w.heap.size w u/\BlkIs u w.heap.size 39 (reL k m A l.length c lo hi).toArray) (by kernel_rfl) ⟨HB.out.drew,HX.out.drew⟩ ?_;intro hS0;refine wpAnyH_take (i:=0) (v:=reV k m A l.length c lo hi) rfl (by kernel_rfl) (by kernel_rfl) (by kernel_rfl) (fun _ _ _ h=>h) (.inl ⟨rfl,fun u hu=>xzix 39 (.tmp 2) _ rfl rfl (loadRe hu.2)⟩) hS0 ?_;refine wpAnyH_take (i:=1) (v:=.string s) rfl (by kernel_rfl) (by kernel_rfl) (by kernel_rfl) (fun _ _ _ h=>h) (.inl ⟨rfl,fun u hu=>by go_simp⟩) hS0 ?_;refine wpAnyH_take (i:=2) (v:=.string s) rfl (by kernel_rfl) (by kernel_rfl) (by kernel_rfl) (fun _ _ _ h=>h) (.inl ⟨rfl,fun u hu=>by go_simp⟩) hS0 ?_;refine wpAnyH_take (i:=5) (v:=.string s) rfl (by kernel_rfl) (by kernel_rfl) (by kernel_rfl) (fun _ _ _ h=>h) (.inl ⟨rfl,fun u hu=>by go_simp⟩) hS0 ?_;refine wpAnyH_take (i:=6) (v:=.int .i64 (s.size:Nat)) rfl (by kernel_rfl) (by kernel_rfl) (by kernel_rfl) (fun _ _ _ h=>h) (.inl ⟨rfl,fun u hu=>by go_simp⟩) hS0 ?_;refine wpAnyH_ready (rs:=[3]) (by kernel_rfl) (by simp) ?_;refine AllReadyH.cons rfl (fun K hK=>?_) AllReadyH.nil;go_simp
 go_at_call 54
 refine(HAt.out _).mono ?_;rintro e w3 ⟨g3,rfl,hg3,hr3,hb3⟩;refine hK.out _ _ ⟨hS0.1.trans (hb3.mono hS0.1.size),hS0.2.step hb3⟩ (fun hS=>?_);clear hK K;have HR3:=zd hr3;have HE:=zd (HEn.out _ g3 (HAT.out.step hS.1) _ hr3);clear hS0 hb3 hr3 hg3;refine wpAnyH_ready (rs:=[4]) (by kernel_rfl) (by simp) ?_;refine AllReadyH.cons rfl (fun K hK=>?_) AllReadyH.nil;go_simp
 go_at_call 53
 refine HE.out.mono ?_;rintro e w4 ⟨g4,rfl,hg4,hr4,hb4⟩;refine hK.out _ _ ⟨hS.1.trans (hb4.mono hS.1.size),hS.2.step hb4⟩ (fun hS2=>?_);clear hK K;have d4:=xzao hr4 hlt;clear hS hb4 hr4 hg4 HE;refine wpAnyH_ready (rs:=[7]) (by kernel_rfl) (by simp) ?_;refine AllReadyH.cons rfl (fun K hK=>?_) AllReadyH.nil;go_simp;refine hK.out _ _ hS2 (fun hS3=>?_);clear hK K;refine wpAnyH_ready (rs:=[8]) (by kernel_rfl) (by simp) ?_;refine AllReadyH.cons rfl (fun K hK=>?_) AllReadyH.nil;go_simp;refine hK.out _ _ hS2 (fun hS4=>?_);clear hK K;refine wpAnyH_ready (rs:=[9]) (by kernel_rfl) (by simp) ?_;refine AllReadyH.cons rfl (fun K hK=>?_) AllReadyH.nil;go_simp;refine hK.out _ _ hS2 (fun hS5=>?_);clear hK K;refine wpAnyH_done (by kernel_rfl) ?_ _;go_wp2;go_ret;exact⟨rfl,hS2.1⟩
end
end Go.Proofs.Ythoaaginadjaoaa
