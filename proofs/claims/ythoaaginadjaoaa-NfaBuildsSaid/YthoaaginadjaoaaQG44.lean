/-
 WHAT nfa.Build ANSWERS of rules that statements look at: a contract. Condition: no rule is great or heavy.
-/
import Derived.Test.YthoaaginadjaoaaQG35
import Derived.Test.YthoaaginadjaoaaQG36
import Derived.Test.YthoaaginadjaoaaQG43
import Derived.Test.YthoaaginadjaoaaQG42
import Derived.Test.YthoaaginadjaoaaQG05
import Derived.Test.YthoaaginadjaoaaQG13
import Derived.Test.YthoaaginadjaoaaQG15
import Derived.Test.YthoaaginadjaoaaQG32
import Derived.Test.YthoaaginadjaoaaQG07
import Derived.Test.YthoaaginadjaoaaQG02
namespace Go.Proofs.Ythoaaginadjaoaa
section
open Go.RowKit
attribute [local irreducible] FreeW textFrame
theorem xzlu {α:Type}(f:α->Bool):∀ l:List α,(∃ t∈l,f t=false)->∃ (q:Nat) (h:q<l.length),f l[q]=false/\∀ t∈l.take q,f t=true
 |[],h=>by obtain⟨t,ht,_⟩:=h;simp at ht
 |a::r,h=>by
  cases ha:f a with
  |false=>exact⟨0,by simp,ha,by simp⟩
  |true=>
   obtain⟨t,ht,h1⟩:=h
   have ht':t∈r:=by
    rcases List.mem_cons.1 ht with rfl|ht
    ·rw [ha]at h1;cases h1
    ·exact ht
   obtain⟨q,hq,h2,h3⟩:=xzlu f r ⟨t,ht',h1⟩;refine⟨q+1,by simpa using hq,by simpa using h2,fun t ht=>?_⟩;rw [List.take_succ_cons]at ht
   rcases List.mem_cons.1 ht with rfl|ht
   ·exact ha
   ·exact h3 t ht
def zeroNf:Nf:=⟨[],[],[],[],[],0⟩
theorem xzfr (W:World):NfaAt W zeroNf (.agg #[.slice none 0 0,.slice none 0 0,.slice none 0 0,.slice none 0 0,.slice none 0 0,.int .i64 0]):=
 ⟨_,_,_,_,_,rfl,⟨none,0,rfl,⟨Nat.le_refl _,by decide⟩,fun h=>absurd rfl h⟩,IntsV.nil W,IntsV.nil W,⟨none,0,rfl,⟨Nat.le_refl _,by decide⟩,fun h=>absurd rfl h⟩,⟨none,0,rfl,⟨Nat.le_refl _,by decide⟩,fun h=>absurd rfl h⟩⟩
theorem xzho {l:List Tree}(hh:∀ t∈l,t.great=false/\t.heavy=false):∀ t∈l,t.nodes<=20000:=fun t ht=>xzhl (hh t ht).2
theorem xznd (l:List Tree)(hh:∀ t∈l,t.great=false/\t.heavy=false)(hs:mayL l=true->sumP l<=150\/2000<sumP l):∃ (N:Nf) (code:Int),
 (∀ (v:Value) (w:World),TreesV w l v->Calls Try.prog 6 #[v] w fun x w'=>∃ v',x=.returned (.tuple #[v',.int .i64 code])/\NfaAt w' N v'/\Below w.heap.size w w')/\
 ((mayL l=false/\code=1/\N=zeroNf)\/(mayL l=true/\2000<sumP l/\code=4/\N=zeroNf)\/(mayL l=true/\sumP l<=150/\code=0/\N=buildN l)):=by
 have hn:=xzho hh
 cases hm:mayL l with
 |true=>
  rcases hs hm with h|h
  ·refine⟨buildN l,0,fun v w hat=>(xzmx hh hm h v w hat).mono ?_,.inr (.inr ⟨rfl,h,rfl,rfl⟩)⟩
   exact fun e w' h=>h
  ·refine⟨zeroNf,4,fun v w hat=>(xzpn hh hm h v w hat).mono ?_,.inr (.inl ⟨rfl,h,rfl,rfl⟩)⟩
   rintro e w' ⟨rfl,hb⟩;exact⟨_,rfl,xzfr _,hb⟩
 |false=>
  refine⟨zeroNf,1,fun v w hat=>?_,.inl ⟨rfl,rfl,rfl⟩⟩;obtain⟨A,c,rfl,hc,hs'⟩:=hat
  have hfin:∀ (e:Ending) (w':World),(e=.returned (.tuple #[.agg #[.slice none 0 0,.slice none 0 0,.slice none 0 0,.slice none 0 0,.slice none 0 0,.int .i64 0],.int .i64 1])/\Below w.heap.size w w')->∃ v',e=.returned (.tuple #[v',.int .i64 1])/\NfaAt w' zeroNf v'/\Below w.heap.size w w':=by
   rintro e w' ⟨rfl,hb⟩;exact⟨_,rfl,xzfr _,hb⟩
  by_cases hlen:l.length<1\/40<l.length
  ·exact(xzsk l hlen A c w).mono hfin
  ·have hbad:∃ t∈l,t.mayN=false:=by
    apply Classical.byContradiction
    intro hno
    have:mayL l=true:=by
     unfold mayL;rw [Bool.and_eq_true,Bool.and_eq_true,decide_eq_true_eq,decide_eq_true_eq,List.all_eq_true];refine⟨fun t ht=>?_,by omega,by omega⟩;rw [xzpm (by have:=hn t ht;omega)]
     cases hx:t.mayN with
     |true=>rfl
     |false=>exact absurd ⟨t,ht,hx⟩ hno
    rw [hm]at this;cases this
   obtain⟨q,hq,h1,h2⟩:=xzlu _ l hbad;refine(xzmy l (by omega) (by omega) q hq h1 h2 (fun t ht=>by have:=hn t ht;omega) A c w fun hne=>?_).mono hfin;obtain⟨b,o,e,_,h⟩:=hs' hne;exact⟨b,o,e,h⟩
end
section
open Go.RowKit
attribute [local irreducible] FreeW textFrame
set_option maxRecDepth 20000 in
set_option maxHeartbeats 8000000 in
theorem xzgo (A0 A1 A2 A3 A4:Option Addr)(n0 n1 n2 n3 n4 c0 c1 c2 c3 c4:Nat)(em:Int)(w:World):
 Calls Try.prog 12 #[.agg #[.slice A0 n0 c0,.slice A1 n1 c1,.slice A2 n2 c2,.slice A3 n3 c3,.slice A4 n4 c4,.int .i64 em]] w fun e w'=>e=.returned (.agg #[.slice A0 n0 c0,.slice A1 n1 c1,.slice A2 n2 c2,.slice A3 n3 c3,.slice A4 n4 c4,.int .i64 em])/\Below w.heap.size w w':=by
 obtain⟨W1,hW1⟩:∃ W1,w.alloc (.cells #[.slice A0 n0 c0,.slice A1 n1 c1,.slice A2 n2 c2,.slice A3 n3 c3,.slice A4 n4 c4,.int .i64 em] 30)=W1:=⟨_,rfl⟩;obtain⟨W2,hW2⟩:∃ W2,W1.alloc (.cells #[.slice none 0 0,.slice none 0 0,.slice none 0 0,.slice none 0 0,.slice none 0 0,.int .i64 0] 42)=W2:=⟨_,rfl⟩
 have hs1:W1.heap.size=w.heap.size+1:=by rw [<-hW1,World.size_alloc]
 have hb1:Below w.heap.size w W1:=by rw [<-hW1];exact(Below.refl _ _).alloc (Nat.le_refl _) _
 have hb2:Below w.heap.size w W2:=by rw [<-hW2];exact hb1.alloc hb1.size _
 have hx1:BlkIs W2 w.heap.size 30 #[.slice A0 n0 c0,.slice A1 n1 c1,.slice A2 n2 c2,.slice A3 n3 c3,.slice A4 n4 c4,.int .i64 em]:=by rw [<-hW2,<-hW1];exact(BlkIs.new _ _ _).alloc _
 have hx2:BlkIs W2 W1.heap.size 42 #[.slice none 0 0,.slice none 0 0,.slice none 0 0,.slice none 0 0,.slice none 0 0,.int .i64 0]:=by rw [<-hW2];exact BlkIs.new _ _ _
 rw [hs1]at hx2;obtain⟨d0,d1,d2,d3,d4,d5⟩:=six hx1;have hth:World.there W2 (w.heap.size+1) 0 ([Value.slice A0 n0 c0,.slice A1 n1 c1,.slice A2 n2 c2,.slice A3 n3 c3,.slice A4 n4 c4,.int .i64 em]).toArray.size:=hx2.there
 have hal:([Value.slice A0 n0 c0,.slice A1 n1 c1,.slice A2 n2 c2,.slice A3 n3 c3,.slice A4 n4 c4,.int .i64 em]).toArray.all (·.oneCell')=true:=by simp [Value.oneCell']
 have hin:(Try.prog.info? 42).map (·.size)=some ([Value.slice A0 n0 c0,.slice A1 n1 c1,.slice A2 n2 c2,.slice A3 n3 c3,.slice A4 n4 c4,.int .i64 em]).toArray.size:=xzhw;have hfl:=hx2.fill (new:=([Value.slice A0 n0 c0,.slice A1 n1 c1,.slice A2 n2 c2,.slice A3 n3 c3,.slice A4 n4 c4,.int .i64 em]).toArray) rfl;have hl:=xzqi hfl;have hb9:Below w.heap.size w _:=xzbz (w0:=w) (B:=w.heap.size) (w.heap.size+1) [Value.slice A0 n0 c0,.slice A1 n1 c1,.slice A2 n2 c2,.slice A3 n3 c3,.slice A4 n4 c4,.int .i64 em] 0 _ (by omega) hb2;have HB:=zd (And.intro hl hb9);clear hb1 hb2 hx1 hx2 hfl hl hb9;have HS1:=zd hs1
 go_enter Try.func12,Try.ntmps12
 go_wp2_with((with_reducible refine wpList_store_mid ?_ 42 (.tmp 2) (.tmp 15) ?_ (w.heap.size+1) 0 ([Value.slice A0 n0 c0,.slice A1 n1 c1,.slice A2 n2 c2,.slice A3 n3 c3,.slice A4 n4 c4,.int .i64 em]).toArray ?_ ?_ hth hin hal ?_);exact rfl;exact rfl;exact rfl;exact rfl)
 exact⟨rfl,_,xzaf rfl rfl HB.out.1,rfl,HB.out.2⟩
end
section
open Go.RowKit
attribute [local irreducible] FreeW
theorem xzvk (m n:Nat->Bool)(w:World):(binOp .neq 37 (setV m) (setV n)).run Try.prog w=.ok (.bool (!setEq m n)) w:=by
 have h:=xzgt m n w
 have h1:=run_eql_struct (P:=Try.prog) w 37 #[.int .u64 (wd m 0:Nat),.int .u64 (wd m 1:Nat),.int .u64 (wd m 2:Nat),.int .u64 (wd m 3:Nat)]
  #[.int .u64 (wd n 0:Nat),.int .u64 (wd n 1:Nat),.int .u64 (wd n 2:Nat),.int .u64 (wd n 3:Nat)]
 have h2:=run_neq_struct (P:=Try.prog) w 37 #[.int .u64 (wd m 0:Nat),.int .u64 (wd m 1:Nat),.int .u64 (wd m 2:Nat),.int .u64 (wd m 3:Nat)]
  #[.int .u64 (wd n 0:Nat),.int .u64 (wd n 1:Nat),.int .u64 (wd n 2:Nat),.int .u64 (wd n 3:Nat)]
 have h3:=h1.symm.trans h;refine h2.trans ?_;generalize(Op.equalIn 10000 37 _ _).run Try.prog w=r at*
 cases r with
 |ok b w'=>
  simp only [Result.andThen_ok,Result.ok.injEq,Value.bool.injEq]at h3;obtain⟨rfl,rfl⟩:=h3
  rfl
 |halt x w'=>simp [Result.andThen]at h3
set_option maxRecDepth 20000 in
set_option maxHeartbeats 16000000 in
theorem xzgp (N:Nf)(v v':Value)(w:World)(h:NfaAt w N v)(h':NfaAt w N v'):Calls Try.prog 11 #[v,v'] w fun e w'=>e=.returned (.bool true)/\Below w.heap.size w w':=by
 obtain⟨v0,v1,v2,v3,v4,rfl,s0,s1,s2,s3,s4⟩:=h;obtain⟨y0,y1,y2,y3,y4,rfl,t0,t1,t2,t3,t4⟩:=h';obtain⟨W1,hW1⟩:∃ W1,w.alloc (.cells #[v0,v1,v2,v3,v4,.int .i64 N.empty] 42)=W1:=⟨_,rfl⟩;obtain⟨W2,hW2⟩:∃ W2,W1.alloc (.cells #[y0,y1,y2,y3,y4,.int .i64 N.empty] 42)=W2:=⟨_,rfl⟩
 have hs1:W1.heap.size=w.heap.size+1:=by rw [<-hW1,World.size_alloc]
 have hs2:W2.heap.size=w.heap.size+2:=by rw [<-hW2,World.size_alloc,hs1]
 have hb1:Below w.heap.size w W1:=by rw [<-hW1];exact(Below.refl _ _).alloc (Nat.le_refl _) _
 have hbb:Below w.heap.size w W2:=by rw [<-hW2];exact hb1.alloc hb1.size _
 have hx1:BlkIs W2 w.heap.size 42 #[v0,v1,v2,v3,v4,.int .i64 N.empty]:=by rw [<-hW2,<-hW1];exact(BlkIs.new _ _ _).alloc _
 have hx2:BlkIs W2 W1.heap.size 42 #[y0,y1,y2,y3,y4,.int .i64 N.empty]:=by rw [<-hW2];exact BlkIs.new _ _ _
 rw [hs1]at hx2;have HI1:=zd (fun(u:World) (hu:Below W2.heap.size W2 u)=>xzep N.first N.first v2 y2 u ((s2.step hbb).step hu) ((t2.step hbb).step hu));have HI2:=zd (fun(u:World) (hu:Below W2.heap.size W2 u)=>xzep N.rules N.rules v1 y1 u ((s1.step hbb).step hu) ((t1.step hbb).step hu));have HK:=zd (And.intro (six hx1) (six hx2));have HL2:=zd (show w.heap.size<W2.heap.size/\w.heap.size+1<W2.heap.size by omega);have HBB:=zd hbb;obtain⟨A0,c0,rfl,hc0,hg0⟩:=s0.step hbb;obtain⟨A1,c1,rfl,hc1,_⟩:=s1;obtain⟨A2,c2,rfl,hc2,_⟩:=s2;obtain⟨A3,c3,rfl,hc3,hg3⟩:=s3.step hbb;obtain⟨A4,c4,rfl,hc4,hg4⟩:=s4.step hbb;obtain⟨B0,e0,rfl,he0,hk0⟩:=t0.step hbb;obtain⟨B1,e1,rfl,he1,_⟩:=t1;obtain⟨B2,e2,rfl,he2,_⟩:=t2;obtain⟨B3,e3,rfl,he3,hk3⟩:=t3.step hbb;obtain⟨B4,e4,rfl,he4,hk4⟩:=t4.step hbb;have HG:=zd (And.intro hg0 (And.intro hg3 (And.intro hg4 (And.intro hk0 (And.intro hk3 hk4)))));have HCC:=zd (And.intro hc0 (And.intro hc3 hc4));rw [decide_eq_true (show N.first=N.first from rfl)]at HI1;rw [decide_eq_true (show N.rules=N.rules from rfl)]at HI2
 have n0:((N.sets.length:Int) != (N.sets.length:Int))=false:=by simp
 have n3:((N.follow.length:Int) != (N.follow.length:Int))=false:=by simp
 have n4:((N.ends.length:Int) != (N.ends.length:Int))=false:=by simp
 have n5:(N.empty != N.empty)=false:=by simp
 obtain⟨d0,d1,d2,d3,d4,d5⟩:=HK.out.1;obtain⟨k0,k1,k2,k3,k4,k5⟩:=HK.out.2;have HS12:=zd (And.intro hs1 hs2);have HEQ:=zd hs1;clear s0 s3 s4 t0 t3 t4 hb1 hbb hx1 hx2 hg0 hg3 hg4 hk0 hk3 hk4 hc0 hc1 hc2 hc3 hc4 he0 he1 he2 he3 he4 hs2
 go_enter Try.func11,Try.ntmps11
 go_wp2_with fail
 go_at_call 17
 refine(HI1.out W2 (Below.refl _ _)).mono ?_;rintro e u1 ⟨rfl,hu1⟩;have HU1:=zd hu1;clear hu1 d0 d1 d2 d3 d4 d5 k0 k1 k2 k3 k4 k5;have q1:=(HU1.out.cell (p:=⟨w.heap.size,1,none⟩) HL2.out.1).trans HK.out.1.2.1;have q2:=(HU1.out.cell (p:=⟨w.heap.size+1,1,none⟩) HL2.out.2).trans HK.out.2.2.1
 go_wp2_with fail
 go_at_call 17
 refine(HI2.out u1 HU1.out).mono ?_;rintro e u2 ⟨rfl,hu2⟩;have HST:=zd (HU1.out.trans (hu2.mono HU1.out.size));clear hu2 q1 q2;have q1:=(HST.out.cell (p:=⟨w.heap.size,3,none⟩) HL2.out.1).trans HK.out.1.2.2.2.1;have q2:=(HST.out.cell (p:=⟨w.heap.size+1,3,none⟩) HL2.out.2).trans HK.out.2.2.2.2.1;have q3:=(HST.out.cell (p:=⟨w.heap.size,4,none⟩) HL2.out.1).trans HK.out.1.2.2.2.2.1;have q4:=(HST.out.cell (p:=⟨w.heap.size+1,4,none⟩) HL2.out.2).trans HK.out.2.2.2.2.2.1;go_wp2;clear q1 q2 q3 q4 HU1
 go_loopw [5] (fun i wr=>∃ j:Nat,i=.int .i64 j/\j<=N.follow.length/\Hid (Below W2.heap.size W2 wr)) (fun i _=>N.follow.length - (intOf i).toNat)
 case atStart=>exact⟨0,rfl,Nat.zero_le _,HST⟩
 case round=>
  obtain⟨j,rfl,hj,HH⟩:=hrel;clear HST;have q1:=(HH.out.cell (p:=⟨w.heap.size,3,none⟩) HL2.out.1).trans HK.out.1.2.2.2.1
  by_cases hp:j<N.follow.length
  ·have hk1:IntKind.i64.wrap ((j:Int)+1)=((j+1:Nat):Int):=by rw [IntKind.wrap_i64];have:=HCC.out.2.1;omega
   have hdl:decide ((j:Int)<(N.follow.length:Int))=true:=by simp;omega
   have hji:(j:Int)<(N.follow.length:Int):=by omega
   have hne:N.follow≠[]:=by intro e;rw [e]at hp;simp at hp
   obtain⟨g1,o1,rfl,hlt1,hr1⟩:=HG.out.2.1 hne;obtain⟨g2,o2,rfl,hlt2,hr2⟩:=HG.out.2.2.2.2.1 hne;obtain⟨x1,hx1,hv1⟩:=hr1 j hp;obtain⟨x2,hx2,hv2⟩:=hr2 j hp;have HIN:=zd (fun(u:World) (hu:Below W2.heap.size W2 u)=>xzep _ _ x1 x2 u (hv1.step hu) (hv2.step hu));rw [decide_eq_true (show N.follow[j]=N.follow[j]from rfl)]at HIN;have HCL:=zd (And.intro hx1 hx2);have HLT:=zd (And.intro hlt1 hlt2);clear hr1 hr2 hx1 hx2 hv1 hv2 hlt1 hlt2
   go_wp2_with fail
   clear q1;refine xzaz 111 (fun u=>Hid (Below W2.heap.size W2 u)) (by kernel_rfl) (by kernel_rfl) rfl (zd (HH.out.drew)) (fun u u' h hb=>zd (h.out.trans (hb.mono h.out.size))) ?_
   repeat
    refine xzae fun K hK=>?_
    (first
     |skip)
    go_simp
    apply Exists.intro
    refine⟨fun u h1=>?_,hK _ ?_⟩
    ·have q1:=(h1.out.cell (p:=⟨w.heap.size,3,none⟩) HL2.out.1).trans HK.out.1.2.2.2.1
     have q2:=(h1.out.cell (p:=⟨w.heap.size+1,3,none⟩) HL2.out.2).trans HK.out.2.2.2.2.1;have q3:=(h1.out.cell (p:=⟨g1,o1+j,none⟩) HLT.out.1).trans HCL.out.1;have q4:=(h1.out.cell (p:=⟨g2,o2+j,none⟩) HLT.out.2).trans HCL.out.2;unfold freeAt;go_simp
     first
      |exact xzah
      |(apply xzag
        first
         |exact(HIN.out u h1.out).mono (by rintro e u' ⟨rfl,hu'⟩;exact⟨rfl,hu'⟩)
        )
    clear hK K
   refine xzay ?_;intro u hC hb2;have HU:=zd hC.out;clear hC hb2;go_wp2;exact⟨⟨j+1,rfl,hp,HU⟩,by simp [intOf];omega⟩
  ·have hdl:decide ((j:Int)<(N.follow.length:Int))=false:=by simp;omega
   have HST:=HH;clear HH;go_wp2
   go_loopw [6] (fun i wr=>∃ j:Nat,i=.int .i64 j/\j<=N.ends.length/\Hid (Below W2.heap.size W2 wr)) (fun i _=>N.ends.length - (intOf i).toNat)
   case atStart=>exact⟨0,rfl,Nat.zero_le _,HST⟩
   case round=>
    obtain⟨j,rfl,hj,HH⟩:=hrel;clear HST;have q1:=(HH.out.cell (p:=⟨w.heap.size,4,none⟩) HL2.out.1).trans HK.out.1.2.2.2.2.1
    by_cases hp:j<N.ends.length
    ·have hk1:IntKind.i64.wrap ((j:Int)+1)=((j+1:Nat):Int):=by rw [IntKind.wrap_i64];have:=HCC.out.2.2;omega
     have hdl:decide ((j:Int)<(N.ends.length:Int))=true:=by simp;omega
     have hji:(j:Int)<(N.ends.length:Int):=by omega
     have hne:N.ends≠[]:=by intro e;rw [e]at hp;simp at hp
     obtain⟨g1,o1,rfl,hlt1,hr1⟩:=HG.out.2.2.1 hne;obtain⟨g2,o2,rfl,hlt2,hr2⟩:=HG.out.2.2.2.2.2 hne;have hx1:=hr1 j hp;have hx2:=hr2 j hp;generalize N.ends[j]=bb at*;have HCL:=zd (And.intro hx1 hx2);have HLT:=zd (And.intro hlt1 hlt2);clear hr1 hr2 hx1 hx2 hlt1 hlt2
     go_wp2_with fail
     clear q1;refine xzaz 111 (fun u=>Hid (Below W2.heap.size W2 u)) (by kernel_rfl) (by kernel_rfl) rfl (zd (HH.out.drew)) (fun u u' h hb=>zd (h.out.trans (hb.mono h.out.size))) ?_
     repeat
      refine xzae fun K hK=>?_
      (first
       |skip)
      go_simp
      apply Exists.intro
      refine⟨fun u h1=>?_,hK _ ?_⟩
      ·have q1:=(h1.out.cell (p:=⟨w.heap.size,4,none⟩) HL2.out.1).trans HK.out.1.2.2.2.2.1
       have q2:=(h1.out.cell (p:=⟨w.heap.size+1,4,none⟩) HL2.out.2).trans HK.out.2.2.2.2.2.1;have q3:=(h1.out.cell (p:=⟨g1,o1+j,none⟩) HLT.out.1).trans HCL.out.1;have q4:=(h1.out.cell (p:=⟨g2,o2+j,none⟩) HLT.out.2).trans HCL.out.2;unfold freeAt;go_simp
       first
        |exact xzah
        |(apply xzag
          first
           |fail
          )
      clear hK K
     refine xzay ?_;intro u hC hb2;have HU:=zd hC.out;clear hC hb2;go_wp2;exact⟨⟨j+1,rfl,hp,HU⟩,by simp [intOf];omega⟩
    ·have hdl:decide ((j:Int)<(N.ends.length:Int))=false:=by simp;omega
     have HST:=HH;clear HH;go_wp2
     go_loopw [7] (fun i wr=>∃ j:Nat,i=.int .i64 j/\j<=N.sets.length/\Hid (Below W2.heap.size W2 wr)) (fun i _=>N.sets.length - (intOf i).toNat)
     case atStart=>exact⟨0,rfl,Nat.zero_le _,HST⟩
     case round=>
      obtain⟨j,rfl,hj,HH⟩:=hrel;clear HST;have q1:=(HH.out.cell (p:=⟨w.heap.size,0,none⟩) HL2.out.1).trans HK.out.1.1
      by_cases hp:j<N.sets.length
      ·have hk1:IntKind.i64.wrap ((j:Int)+1)=((j+1:Nat):Int):=by rw [IntKind.wrap_i64];have:=HCC.out.1;omega
       have hdl:decide ((j:Int)<(N.sets.length:Int))=true:=by simp;omega
       have hji:(j:Int)<(N.sets.length:Int):=by omega
       have hne:N.sets≠[]:=by intro e;rw [e]at hp;simp at hp
       obtain⟨g1,o1,rfl,hlt1,hr1⟩:=HG.out.1 hne;obtain⟨g2,o2,rfl,hlt2,hr2⟩:=HG.out.2.2.2.1 hne;have hx1:=hr1 j hp;have hx2:=hr2 j hp;generalize N.sets[j]=mm at*
       have hnq:=fun u=>xzvk mm mm u
       rw [show setEq mm mm=true from xzhx mm]at hnq;unfold setV at hnq;have HCL:=zd (And.intro hx1 hx2);have HLT:=zd (And.intro hlt1 hlt2);clear hr1 hr2 hx1 hx2 hlt1 hlt2
       go_wp2_with fail
       clear q1;refine xzaz 111 (fun u=>Hid (Below W2.heap.size W2 u)) (by kernel_rfl) (by kernel_rfl) rfl (zd (HH.out.drew)) (fun u u' h hb=>zd (h.out.trans (hb.mono h.out.size))) ?_
       repeat
        refine xzae fun K hK=>?_
        (first
         |skip)
        go_simp
        apply Exists.intro
        refine⟨fun u h1=>?_,hK _ ?_⟩
        ·have q1:=(h1.out.cell (p:=⟨w.heap.size,0,none⟩) HL2.out.1).trans HK.out.1.1
         have q2:=(h1.out.cell (p:=⟨w.heap.size+1,0,none⟩) HL2.out.2).trans HK.out.2.1;have r0:=(h1.out.cell (p:=⟨g1,o1+j*4,none⟩) HLT.out.1).trans (HCL.out.1 0 (by omega));have r1:=(h1.out.cell (p:=⟨g1,o1+j*4+1,none⟩) HLT.out.1).trans (HCL.out.1 1 (by omega));have r2:=(h1.out.cell (p:=⟨g1,o1+j*4+2,none⟩) HLT.out.1).trans (HCL.out.1 2 (by omega));have r3:=(h1.out.cell (p:=⟨g1,o1+j*4+3,none⟩) HLT.out.1).trans (HCL.out.1 3 (by omega));have s0:=(h1.out.cell (p:=⟨g2,o2+j*4,none⟩) HLT.out.2).trans (HCL.out.2 0 (by omega));have s1:=(h1.out.cell (p:=⟨g2,o2+j*4+1,none⟩) HLT.out.2).trans (HCL.out.2 1 (by omega));have s2:=(h1.out.cell (p:=⟨g2,o2+j*4+2,none⟩) HLT.out.2).trans (HCL.out.2 2 (by omega));have s3:=(h1.out.cell (p:=⟨g2,o2+j*4+3,none⟩) HLT.out.2).trans (HCL.out.2 3 (by omega));unfold freeAt;go_simp
         first
          |exact xzah
          |(apply xzag
            first
             |fail
            )
        clear hK K
       refine xzay ?_;intro u hC hb2;have HU:=zd hC.out;clear hC hb2;go_wp2;exact⟨⟨j+1,rfl,hp,HU⟩,by simp [intOf];omega⟩
      ·have hdl:decide ((j:Int)<(N.sets.length:Int))=false:=by simp;omega
       have HST:=HH;clear HH;go_wp2;go_ret;exact⟨rfl,HBB.out.trans (HST.out.mono HBB.out.size)⟩
end
section
open Go.RowKit
theorem xzkj (k:Int)(A:Option Addr)(n c:Nat)(lo hi:Int):reV k (fun _=>false) A n c lo hi=.agg #[.int .i64 k,.int .u64 0,.int .u64 0,.int .u64 0,.int .u64 0,.slice A n c,.int .i64 lo,.int .i64 hi]:=by
 unfold reV reL;simp only [wd_zero];rfl
def cellsOf:List (List Value)->List Value
 |[]=>[]
 |c::r=>c++cellsOf r
theorem xztn {W U:World}(hs:∀ p v,W.cell? p=some v->U.cell? p=some v){g:Nat}:∀ (ts:List Tree) (css:List (List Value)) (pre:Nat),ts.length=css.length->
 (∀ (i:Nat) (h:i<ts.length) (h':i<css.length),ts[i].At W (.agg css[i].toArray)/\css[i].length=8)->(∀ j v,(cellsOf css)[j]? =some v->U.cell? ⟨g,pre+j,none⟩=some v)->AllAt U ts g pre
 |[],_,_,_,_,_=>trivial
 |t::r,[],_,h,_,_=>by simp at h
 |t::r,c::css,pre,hl,h,hc=>by
  have h0:=h 0 (by simp) (by simp);refine⟨⟨c,?_,h0.2,fun j v hv=>?_⟩,?_⟩
  ·have h1:=h0.1
   exact Tree.At.sub hs _ h1
  ·refine hc j v ?_
   show(c++cellsOf css)[j]? =some v
   rw [List.getElem?_append_left (List.getElem?_eq_some_iff.1 hv).1];exact hv
  ·refine xztn hs r css (pre+8) (by simpa using hl) (fun i h1 h2=>?_) (fun j v hv=>?_)
   ·have:=h (i+1) (by simpa using h1) (by simpa using h2)
    simpa using this
   ·rw [Nat.add_assoc]
    refine hc (8+j) v ?_
    show(c++cellsOf css)[8+j]? =some v
    rw [List.getElem?_append_right (by have:c.length=8:=h0.2;omega),show 8+j - c.length=j by have:c.length=8:=h0.2;omega];exact hv
theorem xzlv {W:World}(t:TypeId)(ts:List Tree)(css:List (List Value))(hl:ts.length=css.length)(h:∀ (i:Nat) (h:i<ts.length) (h':i<css.length),ts[i].At W (.agg css[i].toArray)/\css[i].length=8):
 AllAt (W.alloc (.cells (cellsOf css).toArray t)) ts W.heap.size 0:=by
 have hb:Below W.heap.size W (W.alloc (.cells (cellsOf css).toArray t)):=(Below.refl _ _).alloc (Nat.le_refl _) _;refine xztn (W:=W) (fun p v hv=>by rw [hb.cell (World.block_lt_of_cell? W p hv)];exact hv) ts css 0 hl h (fun j v hv=>?_);have:=(BlkIs.new W t (cellsOf css).toArray).cell j;rw [Nat.zero_add,this]
 simpa using hv
theorem xzlw {W:World}{k:Int}{m:Nat->Bool}{l:List Tree}{lo hi:Int}{g c:Nat}(h:AllAt W l g 0)(hc:l.length<=c/\c<=9223372036854775807):Tree.At W (.node k m l lo hi) (reV k m (some ⟨g,0,none⟩) l.length c lo hi):=by
 unfold Tree.At;exact⟨_,c,rfl,hc,fun _=>⟨g,0,rfl,h⟩⟩
theorem leaf_at {W:World}{k:Int}{m:Nat->Bool}:Tree.At W (.node k m [] 0 0) (reV k m none 0 0 0 0):=by
 unfold Tree.At;exact⟨none,0,rfl,⟨Nat.le_refl _,by decide⟩,fun h=>absurd rfl h⟩
mutual
def Tree.lit:Tree->Bool
 | .node k _ l _ _=>(k != 0)&&litL l
def litL:List Tree->Bool
 |[]=>true
 |t::r=>t.lit&&litL r
end
theorem xzsv {W:World}{g j:Nat}{t:TypeId}(h:BlkIs W g t zeroL.toArray){k:Int}(hk:k≠0):W.cell? ⟨g,j,none⟩≠some (.int .i64 k):=by
 rw [h.cell j];intro e
 match j with
 |0=>simp [zeroL]at e;exact hk e.symm
 |1=>simp [zeroL]at e
 |2=>simp [zeroL]at e
 |3=>simp [zeroL]at e
 |4=>simp [zeroL]at e
 |5=>simp [zeroL]at e
 |6=>simp [zeroL]at e;exact hk e.symm
 |7=>simp [zeroL]at e;exact hk e.symm
 |j+8=>simp [zeroL]at e
mutual
theorem xzto {W U:World}{g:Nat}{t:TypeId}(hz:BlkIs W g t zeroL.toArray)(hs:∀ p v,p.block≠g->W.cell? p=some v->U.cell? p=some v):∀ (T:Tree) {v:Value},T.lit=true->Tree.At W T v->Tree.At U T v
 | .node k m l lo hi,v,hl,h=>by
  simp only [Tree.lit,Bool.and_eq_true]at hl;unfold Tree.At at h ⊢;obtain⟨A,c,h1,h2,h3⟩:=h;refine⟨A,c,h1,h2,fun hne=>?_⟩;obtain⟨b,o,h4,h5⟩:=h3 hne;exact⟨b,o,h4,litL_far hz hs l hl.2 h5⟩
theorem litL_far {W U:World}{g:Nat}{t:TypeId}(hz:BlkIs W g t zeroL.toArray)(hs:∀ p v,p.block≠g->W.cell? p=some v->U.cell? p=some v):∀ (l:List Tree) {b o:Nat},litL l=true->AllAt W l b o->AllAt U l b o
 |[],b,o,_,_=>trivial
 | .node k m s lo hi::r,b,o,hl,h=>by
  simp only [litL,Bool.and_eq_true]at hl;obtain⟨⟨cs,h1,h2,h3⟩,h4⟩:=h;refine⟨⟨cs,xzto hz hs _ hl.1 h1,h2,fun j v hv=>hs _ v ?_ (h3 j v hv)⟩,litL_far hz hs r hl.2 h4⟩;intro e;have e':b=g:=e;subst e'
  obtain⟨A,c,e1,_⟩:∃ A c,Value.agg cs.toArray=reV k m A s.length c lo hi/\_:=by
   unfold Tree.At at h1;obtain⟨A,c,h1,h1'⟩:=h1;exact⟨A,c,h1,h1'⟩
  have e2:cs=reL k m A s.length c lo hi:=by
   unfold reV at e1
   injection e1 with e1
   exact List.toArray_inj e1
  have h5:=h3 0 (.int .i64 k) (by rw [e2];rfl)
  have hk:k≠0:=by
   have:=hl.1;simp only [Tree.lit,Bool.and_eq_true]at this
   simpa using this.1
  exact xzsv hz hk h5
end
theorem xzsw {u:World}{g:Nat}(vs:List Value)(p:Addr)(v:Value)(hp:p.block≠g)(h:u.cell? p=some v):(u.setCells g 0 vs).cell? p=some v:=by
 rw [World.cell?_of_block (w:=u) (xzil g p.block hp vs 0 u)];exact h
end
section
open Go.RowKit
def ltr8 (b:Int):Tree:=.node 1 (sRange b b) [] 0 0
def altA:Tree:=.node 3 (fun _=>false) [ltr8 98,ltr8 99] 0 0
def starA:Tree:=.node 4 (fun _=>false) [altA] 0 (-1)
def exA:Tree:=.node 2 (fun _=>false) [ltr8 97,starA] 0 0
def optB:Tree:=.node 4 (fun _=>false) [ltr8 98] 0 1
def exB:Tree:=.node 2 (fun _=>false) [ltr8 97,optB] 0 0
theorem xzqk:exA.mayN=true:=by decide+kernel
theorem xzql:exB.mayN=true:=by decide+kernel
theorem ex_nodes:exA.nodes=6/\exB.nodes=4:=by decide+kernel
theorem ex_sumN:sumN [exA,exB]=5:=by decide+kernel
theorem ex_sumP:sumP [exA]=3/\sumP [exA,exB]=5:=by decide+kernel
theorem xzvl:(buildN [exA,exB]).first=[0,3]:=by decide+kernel
theorem ex_len:(buildN [exA,exB]).sets.length=5/\(buildN [exA,exB]).follow.length=5:=by decide+kernel
theorem xzsx:(buildN [exA,exB]).follow.getD 1 []=[1,2]:=by decide+kernel
end
section
open Go.RowKit
theorem sizeS8 {W:World}{T:Tree}{k:Int}{m:Nat->Bool}{A:Option Addr}{n c:Nat}{lo hi:Int}(h:T.At W (reV k m A n c lo hi)):T.At W (.agg (reL k m A n c lo hi).toArray)/\(reL k m A n c lo hi).length=8:=⟨h,rfl⟩
theorem xzqm (W:World)(b:Int):(ltr8 b).At W (reV 1 (sRange b b) none 0 0 0 0):=leaf_at
theorem rows28 {W:World}{T1 T2:Tree}{k1 l1 h1 k2 l2 h2:Int}{m1 m2:Nat->Bool}{A1 A2:Option Addr}{n1 c1 n2 c2:Nat}(a1:T1.At W (reV k1 m1 A1 n1 c1 l1 h1))(a2:T2.At W (reV k2 m2 A2 n2 c2 l2 h2)):
 AllAt (W.alloc (.cells (reL k1 m1 A1 n1 c1 l1 h1++reL k2 m2 A2 n2 c2 l2 h2).toArray 39)) [T1,T2] W.heap.size 0:=by
 have:=xzlv (W:=W) 39 [T1,T2] [reL k1 m1 A1 n1 c1 l1 h1,reL k2 m2 A2 n2 c2 l2 h2] rfl (fun i h h'=>by
  match i,h,h' with
  |0,_,_=>exact sizeS8 a1
  |1,_,_=>exact sizeS8 a2)
 exact this
theorem rows18 {W:World}{T1:Tree}{k1 l1 h1:Int}{m1:Nat->Bool}{A1:Option Addr}{n1 c1:Nat}(a1:T1.At W (reV k1 m1 A1 n1 c1 l1 h1)):
 AllAt (W.alloc (.cells (reL k1 m1 A1 n1 c1 l1 h1).toArray 39)) [T1] W.heap.size 0:=by
 have:=xzlv (W:=W) 39 [T1] [reL k1 m1 A1 n1 c1 l1 h1] rfl (fun i h h'=>by
  match i,h,h' with
  |0,_,_=>exact sizeS8 a1)
 exact this
def InBox8 (w:World)(T:Tree)(g:Nat)(A:Option Addr)(n c:Nat)(u:World):Prop:=T.At u (reV T.kind T.set A n c T.lo T.hi)/\BlkIs u g 39 (reL T.kind T.set A n c T.lo T.hi).toArray/\Below w.heap.size w u
theorem InBox8.step {w u u':World}{T:Tree}{g:Nat}{A:Option Addr}{n c:Nat}(h:InBox8 w T g A n c u)(hb:Below u.heap.size u u'):InBox8 w T g A n c u':=⟨h.1.step hb,h.2.1.step hb,h.2.2.trans (hb.mono h.2.2.size)⟩
theorem xzvm {w u:World}{T:Tree}{g:Nat}{A:Option Addr}{n c:Nat}(hl:T.lit=true)(h:T.At u (reV T.kind T.set A n c T.lo T.hi))(hz:BlkIs u g 39 zeroL.toArray)(hg:w.heap.size<=g)(hb:Below w.heap.size w u):
 InBox8 w T g A n c (u.setCells g 0 (reL T.kind T.set A n c T.lo T.hi)):=
 ⟨xzto hz (fun p v hp hv=>xzsw _ p v hp hv) T hl h,xzoi hz rfl,xzdk g _ 0 _ hg hb⟩
set_option maxRecDepth 20000 in
set_option maxHeartbeats 2000000 in
theorem xzfa (b:Nat)(hb:b<256)(w:World):Calls Try.prog 15 #[.int .i64 b] w fun e w'=>e=.returned (reV 1 (sRange b b) none 0 0 0 0)/\Below w.heap.size w w':=by
 have h0:Below w.heap.size w (w.alloc (.cells zeroL.toArray 39)):=(Below.refl _ _).alloc (Nat.le_refl _) _;have hz:=BlkIs.new w 39 zeroL.toArray;have HC:=zd (xzjk b b hb (w.alloc (.cells zeroL.toArray 39)));have H0:=zd (And.intro h0 hz);clear h0 hz;unfold zeroL at*;unfold setV at HC
 go_enter Try.func15,Try.ntmps15
 go_wp2_with(first
  |(go_at_call 34;go_must(refine HC.out.mono ?_);rintro e u ⟨rfl,hb2⟩;have hB3:=H0.out.2.step hb2;have HB2:=zd (H0.out.1.trans (hb2.mono H0.out.1.size));clear hb2)
  |(refine wpList_store_mid rfl 39 (.tmp 2) (.tmp 6) rfl w.heap.size 0 (reL 1 (sRange b b) none 0 0 0 0).toArray rfl rfl hB3.there xzjt xztc ?_))
 have hl:=load_re (xzoi (k:=1) (m:=sRange b b) (A:=none) (n:=0) (c:=0) (lo:=0) (hi:=0) hB3 rfl);exact bodyPost_ret (xzaf rfl rfl hl) rfl ⟨rfl,xzdk w.heap.size _ 0 _ (Nat.le_refl _) HB2.out⟩
end
section
open Go.RowKit
theorem xzlx {T:Tree}(h:T.mayN=true):T.ok=true:=by
 unfold Tree.mayN at h;simp only [Bool.and_eq_true]at h;exact h.2.2
theorem xzkk:∀ t∈[exA,exB],t.mayN=true/\PartIs t/\t.nodes<=1048576:=by
 intro t ht;simp only [List.mem_cons,List.not_mem_nil,or_false]at ht
 rcases ht with rfl|rfl
 ·exact⟨xzqk,xzhs exA (xzlx xzqk) (by rw [ex_nodes.1];decide),by rw [ex_nodes.1];decide⟩
 ·exact⟨xzql,xzhs exB (xzlx xzql) (by rw [ex_nodes.2];decide),by rw [ex_nodes.2];decide⟩
theorem ex_okTs:okTs [exA,exB]:=by
 unfold okTs;refine⟨xzcw exA (xzlx xzqk),?_⟩;unfold okTs;refine⟨xzcw exB (xzlx xzql),?_⟩;unfold okTs
 trivial
theorem ex_sums:∀ j,0<=sumP ([exA,exB].take j)/\sumP ([exA,exB].take j)<=2000
 |0=>by simp [sumP]
 |1=>by
  show 0<=sumP [exA]/\sumP [exA]<=2000
  rw [ex_sumP.1];decide
 |j+2=>by
  show 0<=sumP (exA::exB::[].take j)/\sumP (exA::exB::[].take j)<=2000
  rw [List.take_nil,ex_sumP.2];decide
theorem xzne (A:Option Addr)(c:Nat)(w:World)(hat:∃ b o,A=some ⟨b,o,none⟩/\AllAt w [exA,exB] b o):
 Calls Try.prog 6 #[.slice A 2 c] w fun x w'=>∃ v,x=.returned (.tuple #[v,.int .i64 0])/\NfaAt w' (buildN [exA,exB]) v/\Below w.heap.size w w':=
 xzlc [exA,exB] (by decide) (by decide) (fun t ht=>(xzkk t ht).1) (fun t ht=>(xzkk t ht).2.1) ex_okTs (fun t ht=>(xzkk t ht).2.2) (by rw [ex_sumN];decide) ex_sums A c w (fun _=>hat)
theorem ex_ran:ranL (buildN [exA,exB]) ⟨#[97,98]⟩=[1,4]/\ranT (buildN [exA,exB]) ⟨#[97,98]⟩=0:=by decide+kernel
end
end Go.Proofs.Ythoaaginadjaoaa
