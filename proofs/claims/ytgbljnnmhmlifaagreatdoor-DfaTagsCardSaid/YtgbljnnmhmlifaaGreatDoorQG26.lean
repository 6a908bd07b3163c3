/-
 WHAT hackleref04's Begins ANSWERS at a ReByte. Condition: the text has at most 2^30 bytes.
-/
import Derived.Test.YtgbljnnmhmlifaaGreatDoorQG25
import Derived.Test.YtgbljnnmhmlifaaGreatDoorQG04
import Derived.Test.YtgbljnnmhmlifaaGreatDoorQG10
import Derived.Test.YtgbljnnmhmlifaaGreatDoorQG08
namespace Go.Proofs.YtgbljnnmhmlifaaGreatDoor
section
open Go.RowKit
attribute [local irreducible] FreeW
theorem xzfq {P:Program}{C:World->Prop}{o:Oper}{a:Act}{ops:Array Oper}{K:Act->Prop}(i d:Nat)(b:Bool)(hg:o.guard=some (i,b))(hi:(ops[i]?).bind (·.dst)=some d)(hv:a.tmps.getD d undef=undef)(h1:K (a.put o.dst undef)):
 if Region.wanted o (yielded ops a.tmps)=true then ∃ v,(∀ w,C w->freeAt P o a w v)/\K (a.put o.dst v)else K (a.put o.dst undef):=by
 rw [if_neg]
 ·exact h1
 ·unfold Region.wanted yielded
  rw [hg]
  cases h:a.tmps[d]? with
  |none=>simp [hi,h]
  |some x=>
   rw [Array.getD_eq_getD_getElem?,h]at hv;have hx:x=undef:=hv;subst hx
   simp [hi,h,undef]
set_option maxHeartbeats 8000000 in
set_option maxRecDepth 20000 in
theorem yzbi (s:ByteArray)(n:Nat)(hs30:s.size<=1073741824)(hn:n=s.size+1)(m:Nat->Bool)(l:List Tree)(lo hi:Int)(A:Option Addr)(c:Nat)(w:World)(g0:Nat)(f:Nat->Bool)(hf0:BlkIs w g0 4 (bl n f)):
 Calls Tryz.prog 29 #[reV 1 m A l.length c lo hi,.string s,.slice (some ⟨g0,0,none⟩) n n] w (BoolIs (if setEq m (fun _=>false)then false else f s.size||(decide (0<s.size)&&(f (s.size - 1)&&m (byteAt s.data.toList (s.size - 1))))) w):=by
 have hB0:Below w.heap.size w (w.alloc (.cells (reL 1 m A l.length c lo hi).toArray 49)):=(Below.refl _ _).alloc (Nat.le_refl _) _;have hX0:=BlkIs.new w 49 (reL 1 m A l.length c lo hi).toArray;have HB0:=zd (And.intro hB0 (And.intro hX0 (hf0.alloc (.cells (reL 1 m A l.length c lo hi).toArray 49))))
 have hsn:s.size<n:=by omega
 have hsi:(s.size:Int)<(n:Int):=by omega
 have HN:=zd hn;clear hB0 hX0 hn;have he:=xzgp m (fun _=>false);rw [xzcy]at he;unfold BoolIs at*;unfold setV at he;unfold reV reL at*;clear hf0;generalize setEq m (fun _=>false)=q at*
 cases q with
 |true=>
  go_enter Tryz.func29,Tryz.ntmps29
  go_wp2;go_ret;exact⟨rfl,HB0.out.1⟩
 |false=>
 rw [if_neg (by simp)];obtain⟨hq0,hq1⟩:(0<s.size->(s.size - 1<n))/\True:=⟨fun h=>by omega,trivial⟩
 by_cases hpos:0<s.size
 ·have hl1:s.size - 1<s.size:=by omega
  have hl1n:s.size - 1<n:=by omega
  have hl1i:((s.size - 1:Nat):Int)<(n:Int):=by omega
  have hb1:byteAt s.data.toList (s.size - 1)=(s[s.size - 1]'hl1).toNat:=by
   rw [Lib.getD_at s (s.size - 1) hl1];rfl
  have hx1:(s[s.size - 1]'hl1).toNat<256:=by have:=UInt8.toNat_lt (s[s.size - 1]'hl1);omega
  have hi1:=xzku 9 Tryz.underlying9 s (s.size - 1) hl1 (P:=Tryz.prog)
  have hk1:IntKind.i64.wrap (((s[s.size - 1]'hl1).toNat:Nat):Int)=(((s[s.size - 1]'hl1).toNat:Nat):Int):=by rw [IntKind.wrap_i64];omega
  have hw1:IntKind.i64.wrap ((s.size:Int) - 1)=((s.size - 1:Nat):Int):=by rw [IntKind.wrap_i64];omega
  have dpos:decide ((s.size:Int)>0)=true:=decide_eq_true (by omega);have dpos2:decide (0<s.size)=true:=decide_eq_true hpos;have HC:=zd (fun u=>xzhl m (s[s.size - 1]'hl1).toNat hx1 u)
  have HCE:=zd (fun(u:World) (h1:BlkIs u w.heap.size 49 (reL 1 m A l.length c lo hi).toArray) (h2:BlkIs u g0 4 (bl n f))=>
   (⟨xzba h2 hsn,xzba h2 hl1n,h1.cell 1,h1.cell 2,h1.cell 3,h1.cell 4⟩:u.cell? ⟨g0,s.size,none⟩=some (.bool (f s.size))/\u.cell? ⟨g0,s.size - 1,none⟩=some (.bool (f (s.size - 1)))/\
     u.cell? ⟨w.heap.size,1,none⟩=some (.int .u64 (wd m 0:Nat))/\u.cell? ⟨w.heap.size,2,none⟩=some (.int .u64 (wd m 1:Nat))/\u.cell? ⟨w.heap.size,3,none⟩=some (.int .u64 (wd m 2:Nat))/\u.cell? ⟨w.heap.size,4,none⟩=some (.int .u64 (wd m 3:Nat))))
  rw [dpos2,Bool.true_and,hb1];unfold setV at HC;clear hb1 hq0 hq1;generalize f s.size=x at*;generalize f (s.size - 1)=y at*;generalize hmz:m (s[s.size - 1]'hl1).toNat=z at*;clear hmz
  cases x<;>cases y<;>cases z
  all_goals (
   go_enter Tryz.func29,Tryz.ntmps29
   go_wp2_with fail
   refine xzbp 139 (fun u=>Below w.heap.size w u/\BlkIs u w.heap.size 49 (reL 1 m A l.length c lo hi).toArray/\BlkIs u g0 4 (bl n f)) (by kernel_rfl) (by kernel_rfl) rfl ⟨HB0.out.1.drew,HB0.out.2.1.drew,HB0.out.2.2.drew⟩ (fun u u' h hb=>⟨h.1.trans (hb.mono h.1.size),h.2.1.step hb,h.2.2.step hb⟩) ?_;clear he
   repeat
    refine xzaf fun K hK=>?_
    first
     |((first
      |(refine xzcb 4 32 false rfl rfl ?_ ?_;(focus (go_simp;done)))
      |(refine xzcb 7 35 true rfl rfl ?_ ?_;(focus (go_simp;done)))
      |(refine xzcb 14 42 true rfl rfl ?_ ?_;(focus (go_simp;done)))
      |(refine xzfq 7 35 true rfl rfl ?_ ?_;(focus (go_simp;done)))
      |(refine xzfq 14 42 true rfl rfl ?_ ?_;(focus (go_simp;done))))
       have HK:=zd hK;clear hK;go_simp;have hK:=HK.out;clear HK;refine hK _ ?_
       clear hK K)
     |(skip
       (first
        |(refine xzbm 4 32 false rfl rfl ?_ ?_;(focus (go_simp;done)))
        |(refine xzbm 7 35 true rfl rfl ?_ ?_;(focus (go_simp;done)))
        |(refine xzbm 14 42 true rfl rfl ?_ ?_;(focus (go_simp;done)))
        |skip)
       go_simp
       apply Exists.intro
       refine⟨fun u h1 h2 h3=>?_,hK _ ?_⟩
       ·obtain⟨d0,d1,b1,b2,b3,b4⟩:=HCE.out u h2 h3
        clear h1 h2 h3;unfold freeAt;go_simp
        first
         |exact xzar
         |(apply xzah
           first
            |(go_at_call 56;exact HC.out _)
           )
       clear hK K)
   refine xzdf ?_;intro u hu _;have HU:=zd hu;clear hu;go_wp2;go_ret
   exact⟨rfl,HU.out.1⟩)
 ·have hz:s.size=0:=by omega
  have dpos:decide ((s.size:Int)>0)=false:=decide_eq_false (by omega);have dpos2:decide (0<s.size)=false:=decide_eq_false hpos;have HC:=zd (fun u=>xzhl m 0 (by decide) u)
  have HCE:=zd (fun(u:World) (h1:BlkIs u w.heap.size 49 (reL 1 m A l.length c lo hi).toArray) (h2:BlkIs u g0 4 (bl n f))=>
   (⟨xzba h2 hsn,trivial,h1.cell 1,h1.cell 2,h1.cell 3,h1.cell 4⟩:u.cell? ⟨g0,s.size,none⟩=some (.bool (f s.size))/\True/\
     u.cell? ⟨w.heap.size,1,none⟩=some (.int .u64 (wd m 0:Nat))/\u.cell? ⟨w.heap.size,2,none⟩=some (.int .u64 (wd m 1:Nat))/\u.cell? ⟨w.heap.size,3,none⟩=some (.int .u64 (wd m 2:Nat))/\u.cell? ⟨w.heap.size,4,none⟩=some (.int .u64 (wd m 3:Nat))))
  rw [dpos2,Bool.false_and,Bool.or_false];clear hq0 hq1 hpos hz;generalize f s.size=x at*
  cases x
  all_goals (
   go_enter Tryz.func29,Tryz.ntmps29
   go_wp2_with fail
   refine xzbp 139 (fun u=>Below w.heap.size w u/\BlkIs u w.heap.size 49 (reL 1 m A l.length c lo hi).toArray/\BlkIs u g0 4 (bl n f)) (by kernel_rfl) (by kernel_rfl) rfl ⟨HB0.out.1.drew,HB0.out.2.1.drew,HB0.out.2.2.drew⟩ (fun u u' h hb=>⟨h.1.trans (hb.mono h.1.size),h.2.1.step hb,h.2.2.step hb⟩) ?_;clear he
   repeat
    refine xzaf fun K hK=>?_
    first
     |((first
      |(refine xzcb 4 32 false rfl rfl ?_ ?_;(focus (go_simp;done)))
      |(refine xzcb 7 35 true rfl rfl ?_ ?_;(focus (go_simp;done)))
      |(refine xzcb 14 42 true rfl rfl ?_ ?_;(focus (go_simp;done)))
      |(refine xzfq 7 35 true rfl rfl ?_ ?_;(focus (go_simp;done)))
      |(refine xzfq 14 42 true rfl rfl ?_ ?_;(focus (go_simp;done))))
       have HK:=zd hK;clear hK;go_simp;have hK:=HK.out;clear HK;refine hK _ ?_
       clear hK K)
     |(skip
       (first
        |(refine xzbm 4 32 false rfl rfl ?_ ?_;(focus (go_simp;done)))
        |(refine xzbm 7 35 true rfl rfl ?_ ?_;(focus (go_simp;done)))
        |(refine xzbm 14 42 true rfl rfl ?_ ?_;(focus (go_simp;done)))
        |skip)
       go_simp
       apply Exists.intro
       refine⟨fun u h1 h2 h3=>?_,hK _ ?_⟩
       ·obtain⟨d0,d1,b1,b2,b3,b4⟩:=HCE.out u h2 h3
        clear h1 h2 h3;unfold freeAt;go_simp
        first
         |exact xzar
         |(apply xzah
           first
            |(go_at_call 56;exact HC.out _)
           )
       clear hK K)
   refine xzdf ?_;intro u hu _;have HU:=zd hu;clear hu;go_wp2;go_ret
   exact⟨rfl,HU.out.1⟩)
end
section
open Go.RowKit
set_option maxHeartbeats 8000000 in
set_option maxRecDepth 20000 in
theorem yzbj (s:ByteArray)(n:Nat)(hn:n=s.size+1)(m:Nat->Bool)(t:Tree)(lo hi:Int)(b o:Nat)(c:Nat)(V:Bool)(w:World)(g0:Nat)(f:Nat->Bool)(hf0:BlkIs w g0 4 (bl n f))
 (cs:List Value)(hcat:Tree.At w t (.agg cs.toArray))(hrow:w.rangeAt b o cs)
 (ih:∀ (v:Value) (w:World) (g0:Nat) (f:Nat->Bool),Tree.At w t v->BlkIs w g0 4 (bl n f)->Calls Tryz.prog 29 #[v,.string s,.slice (some ⟨g0,0,none⟩) n n] w (BoolIs (t.begins s.data.toList f) w))
 (ie:∀ (v:Value) (w:World) (g0:Nat) (f:Nat->Bool),Tree.At w t v->BlkIs w g0 4 (bl n f)->Calls Tryz.prog 55 #[v,.string s,.slice (some ⟨g0,0,none⟩) n n] w (EndsIs n (t.ends s.data.toList f) w))
 (iv:∀ u,Below w.heap.size w u->Calls Tryz.prog 57 #[reV 4 m (some ⟨b,o,none⟩) 1 c lo hi] u (BoolIs V u))
 (hs30:s.size<=1073741824)(hlo:0<=lo/\lo<=64/\(hi= -1\/lo<=hi/\hi<=64)):
 Calls Tryz.prog 29 #[reV 4 m (some ⟨b,o,none⟩) 1 c lo hi,.string s,.slice (some ⟨g0,0,none⟩) n n] w (BoolIs (if V then false else if f s.size then true else beginsRep (t.begins s.data.toList) (t.ends s.data.toList) s.size (mostOf s.data.toList lo hi) f) w):=by
 have hB0:Below w.heap.size w (w.alloc (.cells (reL 4 m (some ⟨b,o,none⟩) 1 c lo hi).toArray 49)):=(Below.refl _ _).alloc (Nat.le_refl _) _;have hX0:=BlkIs.new w 49 (reL 4 m (some ⟨b,o,none⟩) 1 c lo hi).toArray;have HB0:=zd (And.intro hB0 (And.intro hX0 (hf0.alloc (.cells (reL 4 m (some ⟨b,o,none⟩) 1 c lo hi).toArray 49))))
 have hsn:s.size<n:=by omega
 have hsi:(s.size:Int)<(n:Int):=by omega
 have HN:=zd hn;have IE:=zd ie;have IV:=zd iv;clear ie iv;have IH:=zd ih;clear ih;clear hB0 hX0 hn;unfold BoolIs at*;unfold reV reL at*;clear hf0;obtain⟨A',n',c',rfl⟩:=hcat.eight
 have hrows:=fun(u:World) (hu:Below w.heap.size w u)=>xzai hrow hu
 have hbs:=fun(u:World) (hu:Below w.heap.size w u) (g:Nat) (f':Nat->Bool) (hf':BlkIs u g 4 (bl n f'))=>IH.out _ u g f' (hcat.step hu) hf'
 have hes:=fun(u:World) (hu:Below w.heap.size w u) (g:Nat) (f':Nat->Bool) (hf':BlkIs u g 4 (bl n f'))=>IE.out _ u g f' (hcat.step hu) hf'
 unfold reL at hbs hes;unfold EndsIs at hes;generalize t.ends s.data.toList=E at*;generalize t.begins s.data.toList=B at*;obtain⟨lo',rfl⟩:∃ z:Nat,lo=(z:Int):=⟨lo.toNat,by omega⟩
 have hlo64:lo'<=64:=by omega
 obtain⟨M,hM⟩:∃ M,mostOf s.data.toList (lo':Int) hi=M:=⟨_,rfl⟩;rw [hM];have hlen2:s.data.toList.length=s.size:=rfl
 have hMle:M<=1073742000:=by
  rw [<-hM];unfold mostOf
  split<;>omega
 have HRW:=zd hrows;have HBS:=zd hbs;have HES:=zd hes
 have hM2:(hi<0/\M=lo'+s.size+1)\/(0<=hi/\hi=(M:Int)):=by
  rw [<-hM];unfold mostOf
  split<;>omega
 have hiv:=IV.out _ HB0.out.1;have HIV:=zd hiv;clear hiv;clear hrow hrows hcat hbs hes hM hlen2 IV IH IE
 cases V with
 |true=>
  go_enter Tryz.func29,Tryz.ntmps29
  go_wp2_with fail
  refine HIV.out.mono ?_;rintro e w1 ⟨rfl,hb1⟩;have HB1:=zd (HB0.out.1.trans (hb1.mono HB0.out.1.size));clear hb1;go_wp2;go_ret;exact⟨rfl,HB1.out⟩
 |false=>
 rw [if_neg (by simp)]
 by_cases hfn:f s.size=true
 ·rw [if_pos hfn]
  go_enter Tryz.func29,Tryz.ntmps29
  go_wp2_with fail
  refine HIV.out.mono ?_;rintro e w1 ⟨rfl,hb1⟩;have HB1:=zd (HB0.out.1.trans (hb1.mono HB0.out.1.size));have d0:=xzba (HB0.out.2.2.step hb1) hsn;rw [hfn]at d0;clear hb1;go_wp2;go_ret;exact⟨rfl,HB1.out⟩
 rw [if_neg hfn]
 have hfn:f s.size=false:=by simpa using hfn
 obtain⟨R,hR⟩:∃ R,beginsRep B E s.size M f=R:=⟨_,rfl⟩;rw [hR];have HR:=zd hR;clear hR
 rcases hM2 with⟨hneg,hM2⟩|⟨hneg,hM2⟩
 ·have e0:decide (hi<0)=true:=by simp [hneg]
  have e1:IntKind.i64.wrap ((lo':Int)+(s.size:Int))=(lo':Int)+(s.size:Int):=by rw [IntKind.wrap_i64];omega
  have e2:IntKind.i64.wrap ((lo':Int)+(s.size:Int)+1)=(M:Int):=by rw [IntKind.wrap_i64];omega
  clear hM2
  go_enter Tryz.func29,Tryz.ntmps29
  go_wp2_with fail
  refine HIV.out.mono ?_;rintro e w1 ⟨rfl,hb1⟩;have HB1:=zd (And.intro (HB0.out.1.trans (hb1.mono HB0.out.1.size)) (And.intro (HB0.out.2.1.step hb1) (HB0.out.2.2.step hb1)));have hbl:=HB1.out.2.1;unfold reL at hbl;obtain⟨_,_,_,_,_,c5,c6,c7⟩:=hbl.eight;have d0:=xzba HB1.out.2.2 hsn;rw [hfn]at d0;clear hb1 hbl;go_wp2;clear c5 c6 c7 d0
  go_loopw [2,11] (fun x i wr=>∃ (q g:Nat) (f':Nat->Bool),x=.slice (some ⟨g,0,none⟩) n n/\i=.int .i64 q/\q<=M/\Hid (Below w.heap.size w wr/\BlkIs wr w.heap.size 49 (reL 4 m (some ⟨b,o,none⟩) 1 c (lo':Int) hi).toArray/\BlkIs wr g 4 (bl n f')/\beginsRep B E s.size (M - q) f'=R)) (fun _ i _=>M - (intOf i).toNat)
  case atStart=>exact⟨0,g0,f,rfl,rfl,Nat.zero_le _,zd ⟨HB1.out.1,HB1.out.2.1,HB1.out.2.2,HR.out⟩⟩
  case round=>
   obtain⟨q,g,f',rfl,rfl,hq,HH⟩:=hrel
   by_cases hp:q<M
   ·have hdl:decide ((q:Int)<(M:Int))=true:=by simp;omega
    have hk1:IntKind.i64.wrap ((q:Int)+1)=((q+1:Nat):Int):=by rw [IntKind.wrap_i64];omega
    have hbl:=HH.out.2.1;unfold reL at hbl;obtain⟨_,_,_,_,_,c5,_,_⟩:=hbl.eight;obtain⟨r0,r1,r2,r3,r4,r5,r6,r7⟩:=HRW.out _ HH.out.1;have hcall:=HBS.out wr HH.out.1 g _ HH.out.2.2.1
    have hst:beginsRep B E s.size (M - q) f'=(B f'||beginsRep B E s.size (M - (q+1)) (E f')):=by
     rw [show M - q=(M - (q+1))+1 by omega];rfl
    have HD:=zd (hst.symm.trans HH.out.2.2.2);clear hst hbl
    by_cases hx:B f'=true
    ·rw [hx]at hcall
     have HC:=zd hcall;have HA:=zd (show R=true by rw [<-HD.out,hx];rfl);clear hcall hx
     go_wp2_with fail
     refine HC.out.mono ?_;rintro e w2 ⟨rfl,hb2⟩;have HB2:=zd hb2;clear hb2;go_wp2;go_ret;rw [HA.out];exact⟨rfl,HH.out.1.trans (HB2.out.mono HH.out.1.size)⟩
    ·have hx2:B f'=false:=by simpa using hx
     rw [hx2]at hcall;have HC:=zd hcall;have HA:=zd (show beginsRep B E s.size (M - (q+1)) (E f')=R by rw [<-HD.out,hx2];rfl);clear hcall hx hx2
     go_wp2_with fail
     refine HC.out.mono ?_;rintro e w2 ⟨rfl,hb2⟩;have HB2:=zd (And.intro (HH.out.1.trans (hb2.mono HH.out.1.size)) (And.intro (HH.out.2.1.step hb2) (HH.out.2.2.1.step hb2)));have hbl:=HB2.out.2.1;unfold reL at hbl;clear c5 r0 r1 r2 r3 r4 r5 r6 r7 hb2;obtain⟨_,_,_,_,_,c5,_,_⟩:=hbl.eight;obtain⟨r0,r1,r2,r3,r4,r5,r6,r7⟩:=HRW.out _ HB2.out.1;have HC2:=zd (HES.out _ HB2.out.1 g _ HB2.out.2.2);clear hbl
     go_wp2_with fail
     refine HC2.out.mono ?_;rintro e w3 ⟨g3,rfl,hg3,hbl3,hb3⟩;have HB3:=zd (And.intro (HB2.out.1.trans (hb3.mono HB2.out.1.size)) (And.intro (HB2.out.2.1.step hb3) hbl3));clear hg3 hbl3 hb3;go_wp2;exact⟨⟨q+1,g3,_,rfl,by go_num,hp,zd ⟨HB3.out.1,HB3.out.2.1,HB3.out.2.2,HA.out⟩⟩,by simp [intOf];omega⟩
   ·have hdl:decide ((q:Int)<(M:Int))=false:=by simp;omega
    obtain rfl:q=M:=by omega
    have HA:=zd (show f' s.size=R by
     have h:=HH.out.2.2.2;rw [Nat.sub_self]at h
     exact h)
    have d0:=xzba HH.out.2.2.1 hsn;go_wp2;go_ret;rw [<-HA.out];exact⟨rfl,HH.out.1⟩
 ·have e0:decide (hi<0)=false:=by simp;omega
  subst hM2
  go_enter Tryz.func29,Tryz.ntmps29
  go_wp2_with fail
  refine HIV.out.mono ?_;rintro e w1 ⟨rfl,hb1⟩;have HB1:=zd (And.intro (HB0.out.1.trans (hb1.mono HB0.out.1.size)) (And.intro (HB0.out.2.1.step hb1) (HB0.out.2.2.step hb1)));have hbl:=HB1.out.2.1;unfold reL at hbl;obtain⟨_,_,_,_,_,c5,c6,c7⟩:=hbl.eight;have d0:=xzba HB1.out.2.2 hsn;rw [hfn]at d0;clear hb1 hbl;go_wp2;clear c5 c6 c7 d0
  go_loopw [2,11] (fun x i wr=>∃ (q g:Nat) (f':Nat->Bool),x=.slice (some ⟨g,0,none⟩) n n/\i=.int .i64 q/\q<=M/\Hid (Below w.heap.size w wr/\BlkIs wr w.heap.size 49 (reL 4 m (some ⟨b,o,none⟩) 1 c (lo':Int) (M:Int)).toArray/\BlkIs wr g 4 (bl n f')/\beginsRep B E s.size (M - q) f'=R)) (fun _ i _=>M - (intOf i).toNat)
  case atStart=>exact⟨0,g0,f,rfl,rfl,Nat.zero_le _,zd ⟨HB1.out.1,HB1.out.2.1,HB1.out.2.2,HR.out⟩⟩
  case round=>
   obtain⟨q,g,f',rfl,rfl,hq,HH⟩:=hrel
   by_cases hp:q<M
   ·have hdl:decide ((q:Int)<(M:Int))=true:=by simp;omega
    have hk1:IntKind.i64.wrap ((q:Int)+1)=((q+1:Nat):Int):=by rw [IntKind.wrap_i64];omega
    have hbl:=HH.out.2.1;unfold reL at hbl;obtain⟨_,_,_,_,_,c5,_,_⟩:=hbl.eight;obtain⟨r0,r1,r2,r3,r4,r5,r6,r7⟩:=HRW.out _ HH.out.1;have hcall:=HBS.out wr HH.out.1 g _ HH.out.2.2.1
    have hst:beginsRep B E s.size (M - q) f'=(B f'||beginsRep B E s.size (M - (q+1)) (E f')):=by
     rw [show M - q=(M - (q+1))+1 by omega];rfl
    have HD:=zd (hst.symm.trans HH.out.2.2.2);clear hst hbl
    by_cases hx:B f'=true
    ·rw [hx]at hcall
     have HC:=zd hcall;have HA:=zd (show R=true by rw [<-HD.out,hx];rfl);clear hcall hx
     go_wp2_with fail
     refine HC.out.mono ?_;rintro e w2 ⟨rfl,hb2⟩;have HB2:=zd hb2;clear hb2;go_wp2;go_ret;rw [HA.out];exact⟨rfl,HH.out.1.trans (HB2.out.mono HH.out.1.size)⟩
    ·have hx2:B f'=false:=by simpa using hx
     rw [hx2]at hcall;have HC:=zd hcall;have HA:=zd (show beginsRep B E s.size (M - (q+1)) (E f')=R by rw [<-HD.out,hx2];rfl);clear hcall hx hx2
     go_wp2_with fail
     refine HC.out.mono ?_;rintro e w2 ⟨rfl,hb2⟩;have HB2:=zd (And.intro (HH.out.1.trans (hb2.mono HH.out.1.size)) (And.intro (HH.out.2.1.step hb2) (HH.out.2.2.1.step hb2)));have hbl:=HB2.out.2.1;unfold reL at hbl;clear c5 r0 r1 r2 r3 r4 r5 r6 r7 hb2;obtain⟨_,_,_,_,_,c5,_,_⟩:=hbl.eight;obtain⟨r0,r1,r2,r3,r4,r5,r6,r7⟩:=HRW.out _ HB2.out.1;have HC2:=zd (HES.out _ HB2.out.1 g _ HB2.out.2.2);clear hbl
     go_wp2_with fail
     refine HC2.out.mono ?_;rintro e w3 ⟨g3,rfl,hg3,hbl3,hb3⟩;have HB3:=zd (And.intro (HB2.out.1.trans (hb3.mono HB2.out.1.size)) (And.intro (HB2.out.2.1.step hb3) hbl3));clear hg3 hbl3 hb3;go_wp2;exact⟨⟨q+1,g3,_,rfl,by go_num,hp,zd ⟨HB3.out.1,HB3.out.2.1,HB3.out.2.2,HA.out⟩⟩,by simp [intOf];omega⟩
   ·have hdl:decide ((q:Int)<(M:Int))=false:=by simp;omega
    obtain rfl:q=M:=by omega
    have HA:=zd (show f' s.size=R by
     have h:=HH.out.2.2.2;rw [Nat.sub_self]at h
     exact h)
    have d0:=xzba HH.out.2.2.1 hsn;go_wp2;go_ret;rw [<-HA.out];exact⟨rfl,HH.out.1⟩
end
section
open Go.RowKit
theorem xzmz (s:ByteArray)(hs30:s.size<=1073741824)(n:Nat)(hn:n=s.size+1):∀ (T:Tree) (v:Value) (w:World) (g0:Nat) (f:Nat->Bool),T.ok=true->Tree.At w T v->BlkIs w g0 4 (bl n f)->
 Calls Tryz.prog 29 #[v,.string s,.slice (some ⟨g0,0,none⟩) n n] w (BoolIs (T.begins s.data.toList f) w):=by
 intro T
 induction T using Tree.ind with
 |h k m l lo hi ih=>
  intro v w g0 f hok hat hf
  have hvoid:=fun u (hu:Below w.heap.size w u)=>xzsw (.node k m l lo hi) v u hok (hat.step hu)
  obtain⟨A,c,rfl,hc,hs⟩:=hat.open;obtain⟨hoks,hn'⟩:=xzcz hok;have hkind:=xzay hn'
  have ih':=fun t ht v w g0 f=>ih t ht v w g0 f (hoks t ht)
  have ie:=fun t ht v w g0 f=>xzka s hs30 n hn t v w g0 f (hoks t ht)
  unfold Tree.begins
  rcases hkind with⟨rfl,hl⟩|⟨rfl,hl⟩|⟨rfl,hl⟩|⟨rfl,hl⟩|⟨rfl,hl,hlo⟩
  ·rw [if_pos rfl]
   exact yzbf s n hn m l lo hi A c w g0 f hf
  ·rw [if_neg (by decide),if_pos rfl]
   exact yzbi s n hs30 hn m l lo hi A c w g0 f hf
  ·rw [if_neg (by decide),if_neg (by decide),if_pos rfl]
   rw [xzwp]at hvoid;exact yzbh s n hn m l lo hi A c hc _ w g0 f hf hs ih' ie hvoid
  ·rw [if_neg (by decide),if_neg (by decide),if_neg (by decide),if_pos rfl]
   exact yzbg s n hn m l lo hi A c hc w g0 f hf hs ih'
  ·rw [if_neg (by decide),if_neg (by decide),if_neg (by decide),if_neg (by decide)]
   rw [yzga]at hvoid
   obtain⟨t,rfl⟩:∃ t,l=[t]:=by
    match l,hl with
    |[t],_=>exact⟨t,rfl⟩
   obtain⟨b,o,rfl,hbw,hg⟩:=hs (by simp);obtain⟨cs,hcat,hlen,hrow⟩:=hg 0 (by simp);rw [show o+0*8=o by omega]at hrow;exact yzbj s n hn m t lo hi b o c _ w g0 f hf cs hcat hrow (ih' t (by simp)) (ie t (by simp)) hvoid hs30 hlo
end
section
open Go.RowKit
attribute [local irreducible] FreeW
def Great8 (l:List Tree)(w:World):Ending->World->Prop:=fun e w'=>(∃ b:Bool,e=.returned (.bool b)/\(b=false->l.length<=45/\(∀ t∈l,t.great=false/\t.heavy=false)/\((∀ t∈l,t.ok=true/\t.nodes<=1048576)->sumP l<=150\/2000<sumP l)))/\Below w.heap.size w w'
set_option maxRecDepth 20000 in
set_option maxHeartbeats 8000000 in
theorem xzww (l:List Tree)(v:Value)(w:World)(hat:TreesV w l v):Calls Tryz.prog 17 #[v] w (Great8 l w):=by
 obtain⟨A,c,rfl,hc,hs⟩:=hat;have HS:=zd hs;clear hs
 go_enter Tryz.func17,Tryz.ntmps17
 go_wp2
 go_loopw [3,4] (fun n i wr=>∃ (j:Nat) (z:Int),n=.int .i64 z/\i=.int .i64 j/\j<=l.length/\Hid (Below w.heap.size w wr/\(∀ t∈l.take j,t.great=false/\t.heavy=false)/\(l.length<=45->(∀ t∈l.take j,t.ok=true/\t.nodes<=1048576)->z=sumP (l.take j)))) (fun _ i _=>l.length - (intOf i).toNat)
 case atStart=>exact⟨0,0,rfl,rfl,Nat.zero_le _,zd ⟨Below.refl _ _,fun t ht=>by simp at ht,fun _ _=>rfl⟩⟩
 case round=>
  obtain⟨j,z,rfl,rfl,hj,HH⟩:=hrel
  by_cases hp:j<l.length
  ·have hdl:decide ((j:Int)<(l.length:Int))=true:=by simp;omega
   obtain⟨b,o,rfl,hbw,hg⟩:=HS.out (by intro e;subst e;simp at hp);obtain⟨A',n',c',hcat,hrow⟩:=rangeT hg hp;obtain⟨r0,r1,r2,r3,r4,r5,r6,r7⟩:=xzai hrow HH.out.1
   have hk1:IntKind.i64.wrap ((j:Int)+1)=((j+1:Nat):Int):=by rw [IntKind.wrap_i64];omega
   have hG:=xzqk l[j] _ wr (hcat.step HH.out.1);have HV:=zd (fun u (hu:Below w.heap.size w u)=>xzql l[j] _ u (hcat.step hu));have HP:=zd (fun u (hu:Below w.heap.size w u)=>xzol l[j] _ u (hcat.step hu));have HQ:=zd (fun u (hu:Below w.heap.size w u) (h1:l[j].ok=true) (h2:l[j].nodes<=1048576)=>xztd l[j] h1 h2 _ u (hcat.step hu));have HR:=zd (fun(u:World) (hu:Below w.heap.size w u)=>xzai hrow hu)
   have hmem:∀ t∈l.take (j+1),t∈l.take j\/t=l[j]:=fun t ht=>xzbj hp ht
   have htk:=List.take_succ_eq_append_getElem hp;have HM:=zd (And.intro hmem htk)
   have HP2:=zd (show ∀ u,Below w.heap.size w u->Calls Tryz.prog 34 #[.agg (reL l[j].kind l[j].set A' n' c' l[j].lo l[j].hi).toArray] u fun e w'=>(∃ y:Int,e=.returned (.int .i64 y)/\(l[j].ok=true/\l[j].nodes<=1048576->y=l[j].places))/\Below u.heap.size u w' from fun u hu=>by
    by_cases hx:l[j].ok=true/\l[j].nodes<=1048576
    ·exact(HQ.out u hu hx.1 hx.2).mono fun e w' ⟨h1,h2⟩=>⟨⟨_,h1,fun _=>rfl⟩,h2⟩
    ·exact(HP.out u hu).mono fun e w' ⟨⟨y,h1⟩,h2⟩=>⟨⟨y,h1,fun h=>absurd h hx⟩,h2⟩)
   have HG:=zd hG
   have hsum:IntKind.i64.wrap (z+l[j].places)=z+l[j].places\/ ¬ (l.length<=45/\∀ t∈l.take (j+1),t.ok=true/\t.nodes<=1048576):=by
    by_cases hx:l.length<=45/\∀ t∈l.take (j+1),t.ok=true/\t.nodes<=1048576
    ·left
     have hz:=HH.out.2.2 hx.1 fun t ht=>hx.2 t (by rw [htk];exact List.mem_append_left _ ht)
     have h1:=xzdi (l.take j)
     have h2:=sumP_pos (l.take j) fun t ht=>(hx.2 t (by rw [htk];exact List.mem_append_left _ ht)).1
     have h3:=xzcl l[j];have h4:=xzbw l[j] (hx.2 _ (by rw [htk];exact List.mem_append_right _ (List.mem_singleton.2 rfl))).1
     have h5:(l.take j).length<=45:=by rw [List.length_take];omega
     rw [IntKind.wrap_i64];omega
    ·exact .inr hx
   have HSM:=zd hsum;have HIN:=zd (List.getElem_mem hp);unfold reL at HP2 HV HG;clear hcat hrow hG hg HP HQ hmem htk hsum;generalize(l[j]).kind=kk at*;generalize(l[j]).set=mm at*;generalize(l[j]).lo=ll at*;generalize(l[j]).hi=hh at*;obtain⟨gb,hgb⟩:∃ gb,(l[j]).great=gb:=⟨_,rfl⟩;obtain⟨vb,hvb⟩:∃ vb,(l[j]).heavy=vb:=⟨_,rfl⟩;rw [hgb]at HG;rw [hvb]at HV;have HGV:=zd (And.intro hgb hvb);clear hgb hvb
   cases gb with
   |true=>
    go_wp2_with fail
    refine HG.out.mono ?_;rintro e w1 ⟨rfl,hb1⟩;have HB1:=zd (HH.out.1.trans (hb1.mono HH.out.1.size));clear hb1;go_wp2;go_ret;exact⟨⟨true,rfl,fun h=>by cases h⟩,HB1.out⟩
   |false=>
    go_wp2_with fail
    refine HG.out.mono ?_;rintro e w1 ⟨rfl,hb1⟩;have hB1:=HH.out.1.trans (hb1.mono HH.out.1.size);clear hb1 r0 r1 r2 r3 r4 r5 r6 r7;obtain⟨r0,r1,r2,r3,r4,r5,r6,r7⟩:=HR.out w1 hB1;have HB1:=zd hB1;clear hB1
    cases vb with
    |true=>
     go_wp2_with fail
     refine(HV.out _ HB1.out).mono ?_;rintro e w2 ⟨rfl,hb2⟩;have HB2:=zd (HB1.out.trans (hb2.mono HB1.out.size));clear hb2;go_wp2;go_ret;exact⟨⟨true,rfl,fun h=>by cases h⟩,HB2.out⟩
    |false=>
     go_wp2_with fail
     refine(HV.out _ HB1.out).mono ?_;rintro e w2 ⟨rfl,hb2⟩;have hB2:=HB1.out.trans (hb2.mono HB1.out.size);clear hb2 r0 r1 r2 r3 r4 r5 r6 r7;obtain⟨r0,r1,r2,r3,r4,r5,r6,r7⟩:=HR.out w2 hB2;have HB2:=zd hB2;clear hB2
     go_wp2_with fail
     refine(HP2.out _ HB2.out).mono ?_;rintro e w3 ⟨⟨y,rfl,hy⟩,hb3⟩;have HB3:=zd (HB2.out.trans (hb3.mono HB2.out.size));have HY:=zd hy;clear hb3 hy r0 r1 r2 r3 r4 r5 r6 r7;go_wp2;refine⟨⟨j+1,_,rfl,by go_num,hp,zd ⟨HB3.out,fun t ht=>?_,fun h45 hall=>?_⟩⟩,by simp [intOf];omega⟩
     ·rcases HM.out.1 t ht with ht|rfl
      ·exact HH.out.2.1 t ht
      ·exact HGV.out
     ·have hx:=hall l[j] (by rw [HM.out.2];exact List.mem_append_right _ (List.mem_singleton.2 rfl))
      rw [HY.out hx]
      rcases HSM.out with h|h
      ·have hw:wrap64 (z+(l[j]).places)=z+(l[j]).places:=by rw [<-xzvd];exact h
       have hz:=HH.out.2.2 h45 fun t ht=>hall t (by rw [HM.out.2];exact List.mem_append_left _ ht)
       rw [HM.out.2,xzdj,<-hz]
       first
        |exact h
        |exact hw
      ·exact absurd ⟨h45,hall⟩ h
  ·have hdl:decide ((j:Int)<(l.length:Int))=false:=by simp;omega
   obtain rfl:j=l.length:=by omega
   have HE:=HH.out;rw [List.take_length]at HE;have HX:=zd HE;clear HE
   by_cases h45:45<l.length
   ·have q1:decide ((l.length:Int)>45)=true:=by simp;omega
    have q2:decide ((45:Int)<(l.length:Int))=true:=by simp;omega
    go_wp2;go_ret;exact⟨⟨true,rfl,fun h=>by cases h⟩,HX.out.1⟩
   have q1:decide ((l.length:Int)>45)=false:=by simp;omega
   have q2:decide ((45:Int)<(l.length:Int))=false:=by simp;omega
   by_cases h150:150<z
   ·have q3:decide (z>150)=true:=by simp;omega
    have q4:decide (150<z)=true:=by simp;omega
    by_cases h2000:z<=2000
    ·have q5:decide (z<=2000)=true:=by simp;omega
     go_wp2;go_ret;exact⟨⟨true,rfl,fun h=>by cases h⟩,HX.out.1⟩
    ·have q5:decide (z<=2000)=false:=by simp;omega
     go_wp2;go_ret;exact⟨⟨false,rfl,fun _=>⟨by omega,HX.out.2.1,fun h=>by have:=HX.out.2.2 (by omega) h;omega⟩⟩,HX.out.1⟩
   ·have q3:decide (z>150)=false:=by simp;omega
    have q4:decide (150<z)=false:=by simp;omega
    go_wp2;go_ret;exact⟨⟨false,rfl,fun _=>⟨by omega,HX.out.2.1,fun h=>by have:=HX.out.2.2 (by omega) h;omega⟩⟩,HX.out.1⟩
def mayL (l:List Tree):Bool:=l.all (fun t=>t.may)&&(decide (1<=l.length)&&decide (l.length<=40))
set_option maxRecDepth 20000 in
set_option maxHeartbeats 8000000 in
theorem yzgd (l:List Tree)(v:Value)(w:World)(hat:TreesV w l v):Calls Tryz.prog 18 #[v] w fun e w'=>e=.returned (.bool (mayL l))/\Below w.heap.size w w':=by
 obtain⟨A,c,rfl,hc,hs⟩:=hat;have HS:=zd hs;obtain⟨R,hR⟩:∃ R,R=mayL l:=⟨_,rfl⟩;rw [<-hR];have HR:=zd hR;clear hs hR
 go_enter Tryz.func18,Tryz.ntmps18
 go_wp2
 go_loopw [3] (fun i wr=>∃ (j:Nat),i=.int .i64 j/\j<=l.length/\Hid (Below w.heap.size w wr/\∀ t∈l.take j,t.may=true)) (fun i _=>l.length - (intOf i).toNat)
 case atStart=>exact⟨0,rfl,Nat.zero_le _,zd ⟨Below.refl _ _,fun t ht=>by simp at ht⟩⟩
 case round=>
  obtain⟨j,rfl,hj,HH⟩:=hrel
  by_cases hp:j<l.length
  ·have hdl:decide ((j:Int)<(l.length:Int))=true:=by simp;omega
   obtain⟨b,o,rfl,hbw,hg⟩:=HS.out (by intro e;subst e;simp at hp);obtain⟨A',n',c',hcat,hrow⟩:=rangeT hg hp;obtain⟨r0,r1,r2,r3,r4,r5,r6,r7⟩:=xzai hrow HH.out.1
   have hk1:IntKind.i64.wrap ((j:Int)+1)=((j+1:Nat):Int):=by rw [IntKind.wrap_i64];omega
   have hG:=xzoi l[j] _ wr (hcat.step HH.out.1);have HM:=zd (fun t (ht:t∈l.take (j+1))=>xzbj hp ht);have HIN:=zd (List.getElem_mem hp);unfold reL at hG;have HG:=zd hG;clear hcat hrow hG hg;generalize(l[j]).kind=kk at*;generalize(l[j]).set=mm at*;generalize(l[j]).lo=ll at*;generalize(l[j]).hi=hh at*;obtain⟨gb,hgb⟩:∃ gb,(l[j]).may=gb:=⟨_,rfl⟩;rw [hgb]at HG;have HGV:=zd hgb;clear hgb
   cases gb with
   |false=>
    have HF:=zd (show R=false by
     rw [HR.out];unfold mayL
     have:l.all (fun t=>t.may)=false:=by
      rw [Bool.eq_false_iff];intro h;have:=List.all_eq_true.1 h _ HIN.out;rw [HGV.out]at this;cases this
     rw [this];rfl)
    go_wp2_with fail
    refine HG.out.mono ?_;rintro e w1 ⟨rfl,hb1⟩;have HB1:=zd (HH.out.1.trans (hb1.mono HH.out.1.size));clear hb1;go_wp2;go_ret;exact⟨by rw [HF.out];rfl,HB1.out⟩
   |true=>
    go_wp2_with fail
    refine HG.out.mono ?_;rintro e w1 ⟨rfl,hb1⟩;have HB1:=zd (HH.out.1.trans (hb1.mono HH.out.1.size));clear hb1;go_wp2;refine⟨⟨j+1,by go_num,hp,zd ⟨HB1.out,fun t ht=>?_⟩⟩,by simp [intOf];omega⟩
    rcases HM.out t ht with ht|rfl
    ·exact HH.out.2 t ht
    ·exact HGV.out
  ·have hdl:decide ((j:Int)<(l.length:Int))=false:=by simp;omega
   obtain rfl:j=l.length:=by omega
   have HE:=HH.out;rw [List.take_length]at HE;have HX:=zd HE
   have HF:=zd (show R=(decide (1<=l.length)&&decide (l.length<=40))by
    rw [HR.out];unfold mayL;have:l.all (fun t=>t.may)=true:=List.all_eq_true.2 HX.out.2
    rw [this];rfl)
   clear HE
   by_cases h1:1<=l.length
   ·have q1:decide ((l.length:Int)>=1)=true:=by simp;omega
    have q2:decide ((1:Int)<=(l.length:Int))=true:=by simp;omega
    by_cases h40:l.length<=40
    ·have q3:decide ((l.length:Int)<=40)=true:=by simp;omega
     have HF2:=zd (show R=true by rw [HF.out,decide_eq_true h1,decide_eq_true h40];rfl);go_wp2;go_ret;exact⟨by rw [HF2.out];rfl,HX.out.1⟩
    ·have q3:decide ((l.length:Int)<=40)=false:=by simp;omega
     have HF2:=zd (show R=false by rw [HF.out,decide_eq_false h40,Bool.and_false]);go_wp2;go_ret;exact⟨by rw [HF2.out];rfl,HX.out.1⟩
   ·have q1:decide ((l.length:Int)>=1)=false:=by simp;omega
    have q2:decide ((1:Int)<=(l.length:Int))=false:=by simp;omega
    have HF2:=zd (show R=false by rw [HF.out,decide_eq_false h1];rfl);go_wp2;go_ret;exact⟨by rw [HF2.out];rfl,HX.out.1⟩
theorem xzrj (s:List UInt8):∀ (l:List Tree) (i:Int) (j:Nat),(∀ t∈l.take j,t.takes s=false)->whichI s i l=whichI s (i+j) (l.drop j)
 |[],i,j,_=>by simp [whichI]
 |t::r,i,0,_=>by simp
 |t::r,i,j+1,h=>by
  have h1:t.takes s=false:=h t (by simp);rw [whichI,h1,if_neg (by simp),xzrj s r (i+1) j fun x hx=>h x (by simp [hx]),List.drop_succ_cons]
  congr 1;omega
set_option maxRecDepth 20000 in
set_option maxHeartbeats 8000000 in
theorem xzwx (l:List Tree)(hok:∀ t∈l,t.ok=true)(s:ByteArray)(hs30:s.size<=1073741824)(v:Value)(w:World)(hat:TreesV w l v):
 Calls Tryz.prog 10 #[v,.string s] w fun e w'=>e=.returned (.int .i64 (whichI s.data.toList 0 l))/\Below w.heap.size w w':=by
 obtain⟨A,c,rfl,hc,hs⟩:=hat;have HS:=zd hs;have HO:=zd hok;obtain⟨R,hR⟩:∃ R,R=whichI s.data.toList 0 l:=⟨_,rfl⟩;rw [<-hR];have HR:=zd hR;clear hs hR hok
 go_enter Tryz.func10,Tryz.ntmps10
 go_wp2
 go_loopw [5] (fun i wr=>∃ (j:Nat),i=.int .i64 j/\j<=l.length/\Hid (Below w.heap.size w wr/\∀ t∈l.take j,t.takes s.data.toList=false)) (fun i _=>l.length - (intOf i).toNat)
 case atStart=>exact⟨0,rfl,Nat.zero_le _,zd ⟨Below.refl _ _,fun t ht=>by simp at ht⟩⟩
 case round=>
  obtain⟨j,rfl,hj,HH⟩:=hrel;have HW:=zd (HR.out.trans (xzrj s.data.toList l 0 j HH.out.2))
  by_cases hp:j<l.length
  ·have hdl:decide ((j:Int)<(l.length:Int))=true:=by simp;omega
   obtain⟨b,o,rfl,hbw,hg⟩:=HS.out (by intro e;subst e;simp at hp);obtain⟨A',n',c',hcat,hrow⟩:=rangeT hg hp;obtain⟨r0,r1,r2,r3,r4,r5,r6,r7⟩:=xzai hrow HH.out.1
   have hk1:IntKind.i64.wrap ((j:Int)+1)=((j+1:Nat):Int):=by rw [IntKind.wrap_i64];omega
   have hG:=xzov l[j] _ s hs30 wr (HO.out _ (List.getElem_mem hp)) (hcat.step HH.out.1);have HM:=zd (fun t (ht:t∈l.take (j+1))=>xzbj hp ht);have HD:=zd (List.drop_eq_getElem_cons hp);unfold reL at hG;have HG:=zd hG;clear hcat hrow hG hg;generalize(l[j]).kind=kk at*;generalize(l[j]).set=mm at*;generalize(l[j]).lo=ll at*;generalize(l[j]).hi=hh at*;obtain⟨gb,hgb⟩:∃ gb,(l[j]).takes s.data.toList=gb:=⟨_,rfl⟩;rw [hgb]at HG;have HGV:=zd hgb;clear hgb
   cases gb with
   |true=>
    have HF:=zd (show R=(j:Int)by
     rw [HW.out,HD.out,whichI,HGV.out,if_pos rfl];omega)
    go_wp2_with fail
    refine HG.out.mono ?_;rintro e w1 ⟨rfl,hb1⟩;have HB1:=zd (HH.out.1.trans (hb1.mono HH.out.1.size));clear hb1;go_wp2;go_ret;exact⟨by rw [HF.out];rfl,HB1.out⟩
   |false=>
    go_wp2_with fail
    refine HG.out.mono ?_;rintro e w1 ⟨rfl,hb1⟩;have HB1:=zd (HH.out.1.trans (hb1.mono HH.out.1.size));clear hb1;go_wp2;refine⟨⟨j+1,by go_num,hp,zd ⟨HB1.out,fun t ht=>?_⟩⟩,by simp [intOf];omega⟩
    rcases HM.out t ht with ht|rfl
    ·exact HH.out.2 t ht
    ·exact HGV.out
  ·have hdl:decide ((j:Int)<(l.length:Int))=false:=by simp;omega
   obtain rfl:j=l.length:=by omega
   have HF:=zd (show R= -1 by rw [HW.out,List.drop_length,whichI]);go_wp2;go_ret;exact⟨by rw [HF.out];rfl,HH.out.1⟩
end
section
open Go.RowKit
attribute [local irreducible] FreeW
theorem yzbk {W:World}{b o:Nat}{k:Int}{m:Nat->Bool}{A:Option Addr}{q c:Nat}{lo hi:Int}(h:W.rangeAt b o (reL k m A q c lo hi)):(Instr.loadAt 49 (.pointer (some ⟨b,o,none⟩))).run Tryz.prog W=.ok (reV k m A q c lo hi) W:=by
 have:=run_loadVar_mid (P:=Tryz.prog) W b o 49 (reL k m A q c lo hi) _ h Tryz.underlying49 rfl (by kernel_rfl);exact this
theorem xzwy (s:List UInt8)(l:List Tree)(j:Nat)(h:∀ t∈l.take j,t.begins s (atP 0)=false):(l.any fun t=>t.begins s (atP 0))=((l.drop j).any fun t=>t.begins s (atP 0)):=by
 conv=>lhs;rw [<-List.take_append_drop j l,List.any_append]
 have:((l.take j).any fun t=>t.begins s (atP 0))=false:=by
  rw [List.any_eq_false];intro t ht;rw [h t ht];simp
 rw [this,Bool.false_or]
set_option maxRecDepth 20000 in
set_option maxHeartbeats 8000000 in
theorem xztr (l:List Tree)(hok:∀ t∈l,t.ok=true)(s:ByteArray)(hs30:s.size<=1073741824)(v:Value)(w:World)(hat:TreesV w l v):
 Calls Tryz.prog 13 #[v,.string s] w fun e w'=>e=.returned (.bool (l.any fun t=>t.begins s.data.toList (atP 0)))/\Below w.heap.size w w':=by
 obtain⟨n,hn⟩:∃ n,n=s.size+1:=⟨_,rfl⟩;have HAt:=zd (fun W=>xzrc s hs30 n hn 0 (by omega) W);have HBe:=zd (fun W (T:Tree) (v:Value) (g0:Nat) (h:T.At W v) (ho:T.ok=true) (hf:BlkIs W g0 4 (bl n (atP 0)))=>xzmz s hs30 n hn T v W g0 (atP 0) ho h hf);obtain⟨A,c,rfl,hc,hs⟩:=hat;have HS:=zd hs;have HO:=zd hok;have HN:=zd hn;obtain⟨R,hR⟩:∃ R,R=(l.any fun t=>t.begins s.data.toList (atP 0)):=⟨_,rfl⟩;rw [<-hR];have HR:=zd hR;clear hs hR hok hn;unfold EndsIs BoolIs at*
 go_enter Tryz.func13,Tryz.ntmps13
 go_wp2
 go_loopw [5] (fun i wr=>∃ (j:Nat),i=.int .i64 j/\j<=l.length/\Hid (Below w.heap.size w wr/\∀ t∈l.take j,t.begins s.data.toList (atP 0)=false)) (fun i _=>l.length - (intOf i).toNat)
 case atStart=>exact⟨0,rfl,Nat.zero_le _,zd ⟨Below.refl _ _,fun t ht=>by simp at ht⟩⟩
 case round=>
  obtain⟨j,rfl,hj,HH⟩:=hrel;have HW:=zd (HR.out.trans (xzwy s.data.toList l j HH.out.2))
  by_cases hp:j<l.length
  ·have hdl:decide ((j:Int)<(l.length:Int))=true:=by simp;omega
   obtain⟨b,o,rfl,hbw,hg⟩:=HS.out (by intro e;subst e;simp at hp);obtain⟨A',n',c',hcat,hrow⟩:=rangeT hg hp
   have hk1:IntKind.i64.wrap ((j:Int)+1)=((j+1:Nat):Int):=by rw [IntKind.wrap_i64];omega
   have HM:=zd (fun t (ht:t∈l.take (j+1))=>xzbj hp ht);have HD:=zd (List.drop_eq_getElem_cons hp);have HROW:=zd (fun(u:World) (hu:Below w.heap.size w u)=>yzbk (xzbr hrow (by simp [reL]) hu));have HCAT:=zd (fun(u:World) (hu:Below w.heap.size w u)=>hcat.step hu);have HOK:=zd (HO.out _ (List.getElem_mem hp));obtain⟨T,hT⟩:∃ T,T=l[j]:=⟨_,rfl⟩;rw [<-hT]at HD HM HROW HCAT HOK;clear hcat hrow hg hT
   go_wp2_with fail
   refine wp_region_held_drew (S:=fun u=>Below w.heap.size w u) (by kernel_rfl) HH.out.1.drew ?_;intro hS0;refine wpAnyH_take (i:=0) (v:=.slice (some ⟨b,o,none⟩) l.length c) rfl (by kernel_rfl) (by kernel_rfl) (by kernel_rfl) (fun _ _ _ h=>h) (.inl ⟨rfl,fun u hu=>by go_simp⟩) hS0 ?_;refine wpAnyH_take (i:=1) (v:=.int .i64 (j:Int)) rfl (by kernel_rfl) (by kernel_rfl) (by kernel_rfl) (fun _ _ _ h=>h) (.inl ⟨rfl,fun u hu=>by go_simp⟩) hS0 ?_;refine wpAnyH_take (i:=2) (v:=.pointer (some ⟨b,o+j*8,none⟩)) rfl (by kernel_rfl) (by kernel_rfl) (by kernel_rfl) (fun _ _ _ h=>h) (.inl ⟨rfl,fun u hu=>by go_simp⟩) hS0 ?_;refine wpAnyH_take (i:=3) (v:=reV T.kind T.set A' n' c' T.lo T.hi) rfl (by kernel_rfl) (by kernel_rfl) (by kernel_rfl) (fun _ _ _ h=>h) (.inl ⟨rfl,fun u hu=>xzmv 49 (.tmp 14) _ rfl rfl (HROW.out u hu)⟩) hS0 ?_;refine wpAnyH_take (i:=4) (v:=.string s) rfl (by kernel_rfl) (by kernel_rfl) (by kernel_rfl) (fun _ _ _ h=>h) (.inl ⟨rfl,fun u hu=>by go_simp⟩) hS0 ?_;refine wpAnyH_take (i:=5) (v:=.string s) rfl (by kernel_rfl) (by kernel_rfl) (by kernel_rfl) (fun _ _ _ h=>h) (.inl ⟨rfl,fun u hu=>by go_simp⟩) hS0 ?_;refine wpAnyH_ready (rs:=[6]) (by kernel_rfl) (by simp) ?_;refine AllReadyH.cons rfl (fun K hK=>?_) AllReadyH.nil;go_simp
   go_at_call 30
   refine(HAt.out _).mono ?_;rintro e w3 ⟨g3,rfl,hg3,hr3,hb3⟩;refine hK.out _ _ (hS0.trans (hb3.mono hS0.size)) (fun hS=>?_);clear hK K;have HE:=zd (HBe.out _ T _ g3 (HCAT.out _ hS) HOK.out hr3);clear hS0 hb3 hr3 hg3;refine wpAnyH_ready (rs:=[7]) (by kernel_rfl) (by simp) ?_;refine AllReadyH.cons rfl (fun K hK=>?_) AllReadyH.nil;go_simp
   go_at_call 29
   refine HE.out.mono ?_;rintro e w4 ⟨rfl,hb4⟩;refine hK.out _ _ (hS.trans (hb4.mono hS.size)) (fun hS2=>?_);clear hK K;have HS2:=zd hS2;clear hS hb4 HE hS2;obtain⟨gb,hgb⟩:∃ gb,T.begins s.data.toList (atP 0)=gb:=⟨_,rfl⟩;rw [hgb];have HGV:=zd hgb;clear hgb;refine wpAnyH_done (by kernel_rfl) ?_ _
   cases gb with
   |true=>
    have HF:=zd (show R=true by rw [HW.out,HD.out,List.any_cons,HGV.out];rfl);go_wp2;go_ret;exact⟨by rw [HF.out];rfl,HS2.out⟩
   |false=>
    go_wp2;refine⟨⟨j+1,by go_num,hp,zd ⟨HS2.out,fun t ht=>?_⟩⟩,by simp [intOf];omega⟩
    rcases HM.out t ht with ht|rfl
    ·exact HH.out.2 t ht
    ·exact HGV.out
  ·have hdl:decide ((j:Int)<(l.length:Int))=false:=by simp;omega
   obtain rfl:j=l.length:=by omega
   have HF:=zd (show R=false by rw [HW.out,List.drop_length];rfl);go_wp2;go_ret;exact⟨by rw [HF.out];rfl,HH.out.1⟩
end
end Go.Proofs.YtgbljnnmhmlifaaGreatDoor
