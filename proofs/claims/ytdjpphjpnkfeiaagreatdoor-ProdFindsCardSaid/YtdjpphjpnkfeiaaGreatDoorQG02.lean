/-
 WHAT IS SAID OF NO PROGRAM: blocks that are known whole; an array of 256 bools. No condition.
-/
import Derived.Deep.MidRow
import Derived.Deep.WholeRow
import Derived.StillTail
import Derived.Test.YtdjpphjpnkfeiaaGreatDoorQG01
namespace Go.Proofs.YtdjpphjpnkfeiaaGreatDoor
section
open Go.RowKit
def BlkIs (w:World)(g:Nat)(t:TypeId)(cs:Array Value):Prop:=w.heap[g]? =some (.cells cs t (0,0))
section
variable {w W' : World} {g : Nat} {t : TypeId} {cs : Array Value}
theorem BlkIs.lt (h:BlkIs w g t cs):g<w.heap.size:=by
 rcases Nat.lt_or_ge g w.heap.size with hlt|hge
 ·exact hlt
 ·unfold BlkIs at h;rw [Array.getElem?_eq_none hge]at h;cases h
theorem BlkIs.cell (h:BlkIs w g t cs)(i:Nat):w.cell? ⟨g,i,none⟩=cs[i]? :=cell_of_row w g i cs t (0,0) h
theorem BlkIs.frozen (h:BlkIs w g t cs)(i:Nat):w.frozen? ⟨g,i,none⟩=false:=by
 unfold BlkIs at h;simp [World.frozen?,h]
theorem BlkIs.new (w:World)(t:TypeId)(cs:Array Value):BlkIs (w.alloc (.cells cs t)) w.heap.size t cs:=by
 show(w.heap.push _)[w.heap.size]? =_
 simp
theorem BlkIs.alloc (h:BlkIs w g t cs)(o:Obj):BlkIs (w.alloc o) g t cs:=(Below.heap_alloc w o g h.lt).trans h
theorem BlkIs.drew (h:BlkIs w g t cs):BlkIs w.drew g t cs:=h
theorem BlkIs.below {B:Nat}(h:BlkIs w g t cs)(hb:Below B w W')(hg:g<B):BlkIs W' g t cs:=(hb.block g hg).trans h
theorem BlkIs.step (h:BlkIs w g t cs)(hb:Below w.heap.size w W'):BlkIs W' g t cs:=h.below hb h.lt
theorem BlkIs.far (h:BlkIs w g t cs){p:Addr}(hp:g≠p.block)(u:Value):BlkIs (w.setCell p u) g t cs:=(Below.heap_setCell w p u g hp).trans h
theorem BlkIs.put (h:BlkIs w g t cs)(i:Nat)(u:Value):BlkIs (w.setCell ⟨g,i,none⟩ u) g t (cs.setIfInBounds i u):=by
 unfold BlkIs at h ⊢
 simp [World.setCell,Array.getElem?_modify,h]
theorem BlkIs.four {a b c d:Value}(h:BlkIs w g t #[a,b,c,d]):w.cell? ⟨g,0,none⟩=some a/\w.cell? ⟨g,1,none⟩=some b/\w.cell? ⟨g,2,none⟩=some c/\w.cell? ⟨g,3,none⟩=some d/\
 w.frozen? ⟨g,0,none⟩=false/\w.frozen? ⟨g,1,none⟩=false/\w.frozen? ⟨g,2,none⟩=false/\w.frozen? ⟨g,3,none⟩=false:=
 ⟨h.cell 0,h.cell 1,h.cell 2,h.cell 3,h.frozen 0,h.frozen 1,h.frozen 2,h.frozen 3⟩
theorem BlkIs.range (h:BlkIs w g t cs):w.rangeAt g 0 cs.toList:=fun j v hv=>by
 rw [Nat.zero_add,h.cell j];simpa using hv
theorem BlkIs.there (h:BlkIs w g t cs):w.there g 0 cs.size:=fun j hj=>by
 rw [Nat.zero_add,h.cell j];exact⟨by simp [hj],h.frozen j⟩
end
theorem BlkIs.sized {g:Nat}{t:TypeId}:∀ (vs:List Value) (o:Nat) (w:World) (cs:Array Value),BlkIs w g t cs->∃ cs',BlkIs (w.setCells g o vs) g t cs'/\cs'.size=cs.size
 |[],_,_,cs,h=>⟨cs,h,rfl⟩
 |v::r,o,w,cs,h=>by
  rw [World.setCells];obtain⟨cs',h1,h2⟩:=BlkIs.sized r (o+1) _ _ (h.put o v);exact⟨cs',h1,by rw [h2];simp⟩
theorem BlkIs.fill {w:World}{g:Nat}{t:TypeId}{cs new:Array Value}(h:BlkIs w g t cs)(hs:new.size=cs.size):BlkIs (w.setCells g 0 new.toList) g t new:=by
 obtain⟨cs',h1,h2⟩:=BlkIs.sized new.toList 0 w cs h;have hr:=World.rangeAt_setCells_same w g 0 new.toList (by rw [Array.length_toList,hs];exact h.there)
 have e:cs'=new:=by
  apply Array.ext (by rw [h2,hs])
  intro i hi hi';have a:=hr i new[i] (by simp [hi']);rw [Nat.zero_add,h1.cell i]at a
  simpa [hi]using a
 rw [<-e];rw [<-e]at h1;exact h1
theorem xzae {fn:Func}{p:Tmp}{ty:TypeId}{tmps:Array Value}{P:Program}{w w':World}{a:Addr}{v:Value}(h:fn.results=#[.cell p ty])
 (hp:tmps.getD p undef=.pointer (some a))(hl:(loadVar ty a).run P w=.ok v w'):(results fn tmps).run P w=.ok v w':=by
 have hp':tmps[p]?.getD undef=.pointer (some a):=by rw [<-hp];simp
 unfold results;rw [h]
 simp [hp',asAddr,hl]
def bools (f:Nat->Bool):Array Value:=((List.range 256).map fun i=>Value.bool (f i)).toArray
theorem xzdp (f:Nat->Bool):(bools f).size=256:=by simp [bools]
theorem xzgi (f:Nat->Bool){i:Nat}(h:i<256):(bools f)[i]? =some (.bool (f i)):=by
 unfold bools;rw [List.getElem?_toArray,List.getElem?_map,List.getElem?_range h];rfl
theorem xziw {f g:Nat->Bool}(h:∀ i,i<256->f i=g i):bools f=bools g:=by
 unfold bools;rw [List.map_congr_left (fun i hi=>by rw [h i (List.mem_range.1 hi)])]
def updS (f:Nat->Bool)(i:Nat)(v:Bool):Nat->Bool:=fun j=>if j=i then v else f j
theorem xzye (f:Nat->Bool)(i:Nat)(v:Bool):(bools f).setIfInBounds i (.bool v)=bools (updS f i v):=by
 apply Array.ext_getElem?
 intro j
 by_cases hj:j<256
 ·rw [Array.getElem?_setIfInBounds,xzgi _ hj,xzgi _ hj,xzdp]
  unfold updS
  by_cases e:i=j
  ·subst e;simp [hj]
  ·have e': ¬ j=i:=fun h=>e h.symm
   simp [e,e']
 ·rw [Array.getElem?_eq_none (by rw [Array.size_setIfInBounds,xzdp];omega),Array.getElem?_eq_none (by rw [xzdp];omega)]
theorem xzyf (f:Nat->Bool):Value.agg (bools f).toList.toArray=.agg (bools f):=by simp
end
section
open Go.RowKit
theorem xzsw (x k:Nat):x / 2^k / 2=x / 2^(k+1):=by rw [Nat.div_div_eq_div_mul,Nat.pow_succ]
def shW (f:Nat->Bool)(c i:Nat):Nat:=wd f i / 2^(min 64 (c - 64*i))
theorem xzas {f:Nat->Bool}{b i:Nat}(h:b / 64≠i):shW f b i=shW f (b+1) i:=by
 unfold shW
 have:min 64 (b - 64*i)=min 64 (b+1 - 64*i):=by omega
 rw [this]
theorem xzdq {f:Nat->Bool}{b q:Nat}(h:b / 64=q):shW f b q=2*shW f (b+1) q+(if f b then 1 else 0):=by
 unfold shW
 have e1:min 64 (b - 64*q)=b%64:=by omega
 have e2:min 64 (b+1 - 64*q)=b%64+1:=by omega
 rw [e1,e2];have ht:=xzaw f q (b%64);rw [show 64*q+b%64=b by omega,Nat.testBit_eq_decide_div_mod_eq]at ht
 have h64:b%64<64:=by omega
 simp only [h64,decide_true,Bool.true_and]at ht;rw [<-xzsw];generalize wd f q / 2^(b%64)=y at*
 cases hf:f b
 ·rw [hf]at ht;have: ¬ y%2=1:=of_decide_eq_false ht;simp;omega
 ·rw [hf]at ht;have:y%2=1:=of_decide_eq_true ht;simp;omega
theorem xzcs {f:Nat->Bool}{b q:Nat}(h:b / 64=q):shW f (b+1) q<9223372036854775808:=by
 unfold shW
 have e2:min 64 (b+1 - 64*q)=b%64+1:=by omega
 rw [e2,<-xzsw];have h1:wd f q / 2^(b%64)<=wd f q:=Nat.div_le_self _ _;have h2:=xzis f q;omega
theorem yzdd (f:Nat->Bool)(i:Nat):shW f 0 i=wd f i:=by simp [shW]
theorem xzot (f:Nat->Bool){i:Nat}(hi:i<4):shW f 256 i=0:=by
 unfold shW;rw [show min 64 (256 - 64*i)=64 by omega];exact Nat.div_eq_of_lt (xzis _ _)
set_option maxHeartbeats 1000000 in
theorem yzde (f:Nat->Bool)(w:World):
 Calls Tryz.prog 46 #[.agg (bools f)] w fun e w'=>e=.returned (setV f)/\Below w.heap.size w w':=by
 go_enter Tryz.func46,Tryz.ntmps46
 go_wp2
 go_loopw [4] (fun s wr=>∃ (z:Int) (y0 y1 y2 y3:Nat), -1<=z/\z<256/\s=.int .i64 z/\y0<18446744073709551616/\y1<18446744073709551616/\y2<18446744073709551616/\y3<18446744073709551616/\
  Hid (y0=shW f (z+1).toNat 0/\y1=shW f (z+1).toNat 1/\y2=shW f (z+1).toNat 2/\y3=shW f (z+1).toNat 3)/\
  wr=((w.alloc (.cells (bools f) 92)).alloc (.cells #[.int .u64 0,.int .u64 0,.int .u64 0,.int .u64 0] 48)).alloc (.cells #[.int .u64 (y0:Nat),.int .u64 (y1:Nat),.int .u64 (y2:Nat),.int .u64 (y3:Nat)] 48))
  (fun s _=>(intOf s+1).toNat)
 case atStart=>
  exact⟨255,0,0,0,0,by omega,by omega,rfl,by omega,by omega,by omega,by omega,zd ⟨(xzot f (by omega)).symm,(xzot f (by omega)).symm,(xzot f (by omega)).symm,(xzot f (by omega)).symm⟩,rfl⟩
 case round=>
  obtain⟨z,y0,y1,y2,y3,hz0,hz1,rfl,h0,h1,h2,h3,HY,rfl⟩:=hrel
  by_cases hz:0<=z
  ·obtain⟨b,rfl⟩:=Int.eq_ofNat_of_zero_le hz
   have hb:b<256:=by omega
   have hbg:=xzgi f hb
   have hcase:b / 64=0\/b / 64=1\/b / 64=2\/b / 64=3:=by omega
   rw [show((b:Int)+1).toNat=b+1 by omega]at HY
   cases hfb:f b
   ·rw [hfb]at hbg
    rcases hcase with hq|hq|hq|hq
    ·have hqi:(b:Int) / 64=0:=by omega
     have hsm:y0<9223372036854775808:=by rw [HY.out.1];exact xzcs hq
     have hnew:shW f b 0=2*y0+0:=by rw [xzdq hq,<-HY.out.1,hfb];rfl
     have HN:=zd hnew;have HQ:=zd hq;clear hnew hq hfb;go_wp2;refine⟨⟨(b:Int) - 1,(2*y0),y1,y2,y3,by omega,by omega,rfl,by omega,by omega,by omega,by omega,?_,?_⟩,by simp [intOf]⟩
     ·rw [show((b:Int) - 1+1).toNat=b by omega]
      exact zd ⟨HN.out.symm,(HY.out.2.1.trans (xzas (by rw [HQ.out];decide)).symm),(HY.out.2.2.1.trans (xzas (by rw [HQ.out];decide)).symm),(HY.out.2.2.2.trans (xzas (by rw [HQ.out];decide)).symm)⟩
     ·have e:(y0:Int)*2=((2*y0:Nat):Int):=by omega
      rw [e]
    ·have hqi:(b:Int) / 64=1:=by omega
     have hsm:y1<9223372036854775808:=by rw [HY.out.2.1];exact xzcs hq
     have hnew:shW f b 1=2*y1+0:=by rw [xzdq hq,<-HY.out.2.1,hfb];rfl
     have HN:=zd hnew;have HQ:=zd hq;clear hnew hq hfb;go_wp2;refine⟨⟨(b:Int) - 1,y0,(2*y1),y2,y3,by omega,by omega,rfl,by omega,by omega,by omega,by omega,?_,?_⟩,by simp [intOf]⟩
     ·rw [show((b:Int) - 1+1).toNat=b by omega]
      exact zd ⟨(HY.out.1.trans (xzas (by rw [HQ.out];decide)).symm),HN.out.symm,(HY.out.2.2.1.trans (xzas (by rw [HQ.out];decide)).symm),(HY.out.2.2.2.trans (xzas (by rw [HQ.out];decide)).symm)⟩
     ·have e:(y1:Int)*2=((2*y1:Nat):Int):=by omega
      rw [e]
    ·have hqi:(b:Int) / 64=2:=by omega
     have hsm:y2<9223372036854775808:=by rw [HY.out.2.2.1];exact xzcs hq
     have hnew:shW f b 2=2*y2+0:=by rw [xzdq hq,<-HY.out.2.2.1,hfb];rfl
     have HN:=zd hnew;have HQ:=zd hq;clear hnew hq hfb;go_wp2;refine⟨⟨(b:Int) - 1,y0,y1,(2*y2),y3,by omega,by omega,rfl,by omega,by omega,by omega,by omega,?_,?_⟩,by simp [intOf]⟩
     ·rw [show((b:Int) - 1+1).toNat=b by omega]
      exact zd ⟨(HY.out.1.trans (xzas (by rw [HQ.out];decide)).symm),(HY.out.2.1.trans (xzas (by rw [HQ.out];decide)).symm),HN.out.symm,(HY.out.2.2.2.trans (xzas (by rw [HQ.out];decide)).symm)⟩
     ·have e:(y2:Int)*2=((2*y2:Nat):Int):=by omega
      rw [e]
    ·have hqi:(b:Int) / 64=3:=by omega
     have hsm:y3<9223372036854775808:=by rw [HY.out.2.2.2];exact xzcs hq
     have hnew:shW f b 3=2*y3+0:=by rw [xzdq hq,<-HY.out.2.2.2,hfb];rfl
     have HN:=zd hnew;have HQ:=zd hq;clear hnew hq hfb;go_wp2;refine⟨⟨(b:Int) - 1,y0,y1,y2,(2*y3),by omega,by omega,rfl,by omega,by omega,by omega,by omega,?_,?_⟩,by simp [intOf]⟩
     ·rw [show((b:Int) - 1+1).toNat=b by omega]
      exact zd ⟨(HY.out.1.trans (xzas (by rw [HQ.out];decide)).symm),(HY.out.2.1.trans (xzas (by rw [HQ.out];decide)).symm),(HY.out.2.2.1.trans (xzas (by rw [HQ.out];decide)).symm),HN.out.symm⟩
     ·have e:(y3:Int)*2=((2*y3:Nat):Int):=by omega
      rw [e]
   ·rw [hfb]at hbg
    rcases hcase with hq|hq|hq|hq
    ·have hqi:(b:Int) / 64=0:=by omega
     have hsm:y0<9223372036854775808:=by rw [HY.out.1];exact xzcs hq
     have hnew:shW f b 0=2*y0+1:=by rw [xzdq hq,<-HY.out.1,hfb];rfl
     have HN:=zd hnew;have HQ:=zd hq;clear hnew hq hfb;go_wp2;refine⟨⟨(b:Int) - 1,(2*y0+1),y1,y2,y3,by omega,by omega,rfl,by omega,by omega,by omega,by omega,?_,?_⟩,by simp [intOf]⟩
     ·rw [show((b:Int) - 1+1).toNat=b by omega]
      exact zd ⟨HN.out.symm,(HY.out.2.1.trans (xzas (by rw [HQ.out];decide)).symm),(HY.out.2.2.1.trans (xzas (by rw [HQ.out];decide)).symm),(HY.out.2.2.2.trans (xzas (by rw [HQ.out];decide)).symm)⟩
     ·have e:(y0:Int)*2+1=((2*y0+1:Nat):Int):=by omega
      rw [e]
    ·have hqi:(b:Int) / 64=1:=by omega
     have hsm:y1<9223372036854775808:=by rw [HY.out.2.1];exact xzcs hq
     have hnew:shW f b 1=2*y1+1:=by rw [xzdq hq,<-HY.out.2.1,hfb];rfl
     have HN:=zd hnew;have HQ:=zd hq;clear hnew hq hfb;go_wp2;refine⟨⟨(b:Int) - 1,y0,(2*y1+1),y2,y3,by omega,by omega,rfl,by omega,by omega,by omega,by omega,?_,?_⟩,by simp [intOf]⟩
     ·rw [show((b:Int) - 1+1).toNat=b by omega]
      exact zd ⟨(HY.out.1.trans (xzas (by rw [HQ.out];decide)).symm),HN.out.symm,(HY.out.2.2.1.trans (xzas (by rw [HQ.out];decide)).symm),(HY.out.2.2.2.trans (xzas (by rw [HQ.out];decide)).symm)⟩
     ·have e:(y1:Int)*2+1=((2*y1+1:Nat):Int):=by omega
      rw [e]
    ·have hqi:(b:Int) / 64=2:=by omega
     have hsm:y2<9223372036854775808:=by rw [HY.out.2.2.1];exact xzcs hq
     have hnew:shW f b 2=2*y2+1:=by rw [xzdq hq,<-HY.out.2.2.1,hfb];rfl
     have HN:=zd hnew;have HQ:=zd hq;clear hnew hq hfb;go_wp2;refine⟨⟨(b:Int) - 1,y0,y1,(2*y2+1),y3,by omega,by omega,rfl,by omega,by omega,by omega,by omega,?_,?_⟩,by simp [intOf]⟩
     ·rw [show((b:Int) - 1+1).toNat=b by omega]
      exact zd ⟨(HY.out.1.trans (xzas (by rw [HQ.out];decide)).symm),(HY.out.2.1.trans (xzas (by rw [HQ.out];decide)).symm),HN.out.symm,(HY.out.2.2.2.trans (xzas (by rw [HQ.out];decide)).symm)⟩
     ·have e:(y2:Int)*2+1=((2*y2+1:Nat):Int):=by omega
      rw [e]
    ·have hqi:(b:Int) / 64=3:=by omega
     have hsm:y3<9223372036854775808:=by rw [HY.out.2.2.2];exact xzcs hq
     have hnew:shW f b 3=2*y3+1:=by rw [xzdq hq,<-HY.out.2.2.2,hfb];rfl
     have HN:=zd hnew;have HQ:=zd hq;clear hnew hq hfb;go_wp2;refine⟨⟨(b:Int) - 1,y0,y1,y2,(2*y3+1),by omega,by omega,rfl,by omega,by omega,by omega,by omega,?_,?_⟩,by simp [intOf]⟩
     ·rw [show((b:Int) - 1+1).toNat=b by omega]
      exact zd ⟨(HY.out.1.trans (xzas (by rw [HQ.out];decide)).symm),(HY.out.2.1.trans (xzas (by rw [HQ.out];decide)).symm),(HY.out.2.2.1.trans (xzas (by rw [HQ.out];decide)).symm),HN.out.symm⟩
     ·have e:(y3:Int)*2+1=((2*y3+1:Nat):Int):=by omega
      rw [e]
  ·have hz':z= -1:=by omega
   subst hz';obtain⟨rfl,rfl,rfl,rfl⟩:=HY.out;clear HY;simp only [show(-1+1:Int).toNat=0 from rfl,yzdd]at*;go_wp2;refine bodyPost_ret (v:=setV f) (by simp [results,Tryz.results46,go_sem]) rfl ⟨rfl,?_⟩;exact(((Below.refl _ _).alloc (Nat.le_refl _) _).alloc (by simp) _).alloc (by simp;omega) _
def sRng (lo b:Nat):Nat->Bool:=fun j=>decide (lo<=j)&&decide (j<b)
theorem zero24 (w:World):(zeroValue 92).run Tryz.prog w=.ok (.agg (bools fun _=>false)) w:=
 (zero_of_info (P:=Tryz.prog) (t:=92) (v:=.agg (bools fun _=>false)) (n:=256) (by kernel_rfl)).1 w
theorem info24:(Tryz.prog.info? 92).map (·.size)=some 256:=by kernel_rfl
set_option maxHeartbeats 400000 in
theorem xzgv (lo hi:Nat)(hhi:hi<256)(w:World):
 Calls Tryz.prog 20 #[.int .i64 lo,.int .i64 hi] w fun e w'=>e=.returned (setV (sRange lo hi))/\Below w.heap.size w w':=by
 have z24:=zero24
 go_enter Tryz.func20,Tryz.ntmps20
 go_wp2
 go_loopw [6] (fun s wr=>∃ b:Nat,lo<=b/\(b<=hi+1\/b=lo)/\s=.int .i64 b/\
  wr=(w.alloc (.cells #[.int .u64 0,.int .u64 0,.int .u64 0,.int .u64 0] 48)).alloc (.cells (bools (sRng lo b)) 92))
  (fun s _=>256 - (intOf s).toNat)
 case atStart=>
  refine⟨lo,Nat.le_refl _,.inr rfl,rfl,?_⟩;rw [xziw (f:=sRng lo lo) (g:=fun _=>false) (fun i _=>by unfold sRng;rw [Bool.eq_false_iff];simp)]
 case round=>
  obtain⟨b,hb0,hb1,rfl,rfl⟩:=hrel
  by_cases hlt:b<=hi
  ·have hb:b<256:=by omega
   have hbg:=xzgi (sRng lo b) hb;have hsz:=xzdp (sRng lo b);go_wp2;refine⟨⟨b+1,by omega,by omega,by go_num,?_⟩,by simp [intOf];omega⟩
   rw [xzye,xziw (f:=updS (sRng lo b) b true) (g:=sRng lo (b+1)) (fun i _=>by
    unfold updS sRng
    by_cases e:i=b
    ·subst e;simp [hb0]
    ·rw [if_neg e,Bool.eq_iff_iff];simp;omega)]
  ·have hset:setV (sRange lo hi)=setV (sRng lo b):=xzgu fun j _=>by
    unfold sRange sRng;rw [Bool.eq_iff_iff];simp;omega
   have HS:=zd hset;clear hset
   have hblk:BlkIs ((w.alloc (.cells #[.int .u64 0,.int .u64 0,.int .u64 0,.int .u64 0] 48)).alloc (.cells (bools (sRng lo b)) 92)) (w.heap.size+1) 92 (bools (sRng lo b)):=by
    have:=BlkIs.new (w.alloc (.cells #[.int .u64 0,.int .u64 0,.int .u64 0,.int .u64 0] 48)) 92 (bools (sRng lo b))
    simpa using this
   have hR:=hblk.range
   have hI:(Tryz.prog.info? 92).map (·.size)=some (bools (sRng lo b)).toList.length:=by rw [info24,Array.length_toList,xzdp]
   clear hblk;have HI:=zd hI;have HR:=zd hR;clear hI hR
   go_wp2_with(first
    |(refine wpList_load_mid rfl 92 (.tmp 5) rfl (w.heap.size+1) 0 rfl (bools (sRng lo b)).toList _ HR.out Tryz.underlying92 rfl HI.out ?_;rw [xzyf])
    |(go_at_call 46;refine(yzde _ _).mono ?_;rintro e w1 ⟨rfl,hb1⟩;obtain⟨hc1,hf1,hz1⟩:=belowStep (g:=w.heap.size) hb1 (by simp;omega)))
   have hB1:Below w.heap.size w w1:=(((Below.refl _ _).alloc (Nat.le_refl _) _).alloc (by simp) _).trans (hb1.mono (by simp;omega));refine bodyPost_ret (v:=setV (sRng lo b)) (by simp [results,Tryz.results20,go_sem,hc1]) rfl ⟨congrArg Ending.returned HS.out.symm,?_⟩;exact(((hB1.setCell (p:=⟨w.heap.size,0,none⟩) (Nat.le_refl _) _).setCell (p:=⟨w.heap.size,1,none⟩) (Nat.le_refl _) _).setCell (p:=⟨w.heap.size,2,none⟩) (Nat.le_refl _) _).setCell (p:=⟨w.heap.size,3,none⟩) (Nat.le_refl _) _
end
section
open Go.RowKit
section free
variable {P : Program} {ops : Array Oper} {C : World → Prop}
def freeUpon (P:Program)(w:World)(v:Value):Result Next->Prop
 | .ok (.value u) w'=>Below w.heap.size w w'/\u=v
 | .ok .skip w'=>Below w.heap.size w w'/\v=undef
 | .ok (.enter f args) w'=>w'=w/\Calls P f args w (fun e w''=>e=.returned v/\Below w.heap.size w w'')
 |_=>False
def freeAt (P:Program)(o:Oper)(a:Act)(w:World)(v:Value):Prop:=freeUpon P w v ((execOp a.eval o).run P w)
theorem yzdf {w:World}{x:Value}:freeUpon P w x (.ok (.value x) w):=⟨Below.refl _ _,rfl⟩
theorem xzyg {w:World}{v:Value}{f:FuncId}{args:Array Value}(h:Calls P f args w fun e w''=>e=.returned v/\Below w.heap.size w w''):freeUpon P w v (.ok (.enter f args) w):=⟨rfl,h⟩
def FreeW (P:Program)(ops:Array Oper)(C:World->Prop)(Q:Act->Prop):List Oper->Act->Prop
 |[],a=>Q a
 |o::rest,a=>if Region.wanted o (yielded ops a.tmps)then ∃ v,(∀ w,C w->freeAt P o a w v)/\FreeW P ops C Q rest (a.put o.dst v)else FreeW P ops C Q rest (a.put o.dst undef)
theorem xzyh {Q:Act->Prop}{a:Act}(h:Q a):FreeW P ops C Q [] a:=h
theorem xzsx {Q:Act->Prop}{a:Act}{o:Oper}{rest:List Oper}
 (h:∀ K:Act->Prop,(∀ a,FreeW P ops C Q rest a->K a)->if Region.wanted o (yielded ops a.tmps)then ∃ v,(∀ w,C w->freeAt P o a w v)/\K (a.put o.dst v)else K (a.put o.dst undef)):FreeW P ops C Q (o::rest) a:=
 h _ (fun _ h=>h)
theorem xzgw {Q Q':Act->Prop}(h:∀ a,Q a->Q' a):∀ (l:List Oper) (a:Act),FreeW P ops C Q l a->FreeW P ops C Q' l a
 |[],a,hf=>h a hf
 |o::l,a,hf=>by
  unfold FreeW at hf ⊢
  split
  ·rename_i hw
   rw [if_pos hw]at hf;obtain⟨v,h1,h2⟩:=hf;exact⟨v,h1,xzgw h l _ h2⟩
  ·rename_i hw
   rw [if_neg hw]at hf;exact xzgw h l _ hf
def Came (ops:Array Oper)(L:Nat->Bool)(v:Nat->Value)(a0 a:Act):Prop:=
 a.defers=a0.defers/\a.tmps.size=a0.tmps.size/\
 (∀ i o t,ops[i]? =some o->L i=true->o.dst=some t->a.tmps.getD t undef=v i)/\
 (∀ t,(∀ i o,ops[i]? =some o->L i=true->o.dst≠some t)->a.tmps.getD t undef=a0.tmps.getD t undef)
theorem xzlb {a:Act}{t:Tmp}{v:Value}(h:t<a.tmps.size):(a.put (some t) v).tmps.getD t undef=v:=by
 simp [Act.put,h]
theorem xzeo {a:Act}{dst:Option Tmp}{t:Tmp}{v:Value}(h:dst≠some t):(a.put dst v).tmps.getD t undef=a.tmps.getD t undef:=by
 cases dst with
 |none=>rfl
 |some d=>
  have hne:d≠t:=fun e=>h (by rw [e])
  simp [Act.put,Array.getElem?_setIfInBounds_ne hne]
theorem size_put (a:Act)(dst:Option Tmp)(v:Value):(a.put dst v).tmps.size=a.tmps.size:=by
 cases dst<;>simp [Act.put]
theorem xzsy (a:Act)(dst:Option Tmp)(v:Value):(a.put dst v).defers=a.defers:=by
 cases dst<;>rfl
def distinctB (ops:Array Oper)(h N:Nat):Bool:=
 (List.range h).all fun i=>match (ops[i]?).bind (·.dst)with
  |none=>true
  |some t=>decide (t<N)&&(List.range h).all fun j=>decide (j=i)||decide ((ops[j]?).bind (·.dst)≠some t)
theorem xzep {h N:Nat}(hB:distinctB ops h N=true){i:Nat}{o:Oper}{t:Tmp}(hi:i<h)(ho:ops[i]? =some o)(ht:o.dst=some t):
 t<N/\∀ j oj,j<h->ops[j]? =some oj->oj.dst=some t->j=i:=by
 have h1:=List.all_eq_true.1 hB i (List.mem_range.2 hi);simp only [ho,Option.bind_some,ht,Bool.and_eq_true,decide_eq_true_eq]at h1;refine⟨h1.1,fun j oj hj hoj htj=>?_⟩;have h2:=List.all_eq_true.1 h1.2 j (List.mem_range.2 hj);simp only [hoj,Option.bind_some,htj,Bool.or_eq_true,decide_eq_true_eq]at h2
 rcases h2 with h2|h2
 ·exact h2
 ·exact absurd rfl h2
theorem Came.put {h N:Nat}{L L':Nat->Bool}{v v':Nat->Value}{a0 a:Act}(hc:Came ops L v a0 a)(hB:distinctB ops h N=true)(hN:a0.tmps.size=N)
 (hL:∀ i,L i=true->i<h){i:Nat}{o:Oper}(hi:i<h)(ho:ops[i]? =some o)(hnot:L i=false)(x:Value)
 (hL':∀ j,L' j=(L j||decide (j=i)))(hv:∀ j,L j=true->v' j=v j)(hx:v' i=x):Came ops L' v' a0 (a.put o.dst x):=by
 obtain⟨h1,h2,h3,h4⟩:=hc;refine⟨(xzsy _ _ _).trans h1,(size_put _ _ _).trans h2,fun j oj t hoj hj ht=>?_,fun t ht=>?_⟩
 ·rw [hL']at hj
  by_cases e:j=i
  ·subst e
   obtain rfl:oj=o:=Option.some.inj (hoj.symm.trans ho);rw [ht,xzlb (by rw [h2,hN];exact(xzep hB hi ho ht).1),hx]
  ·have hj':L j=true:=by simpa [e]using hj
   have hne:o.dst≠some t:=fun hd=>e ((xzep hB hi ho hd).2 j oj (hL j hj') hoj ht)
   rw [xzeo hne,h3 j oj t hoj hj' ht,hv j hj']
 ·have hne:o.dst≠some t:=ht i o ho (by rw [hL'];simp)
  rw [xzeo hne]
  exact h4 t fun j oj hoj hj=>ht j oj hoj (by rw [hL',hj];rfl)
theorem Came.unique {L:Nat->Bool}{v v':Nat->Value}{a0 a a':Act}(hc:Came ops L v a0 a)(hc':Came ops L v' a0 a')(hv:∀ i,L i=true->v i=v' i):a=a':=by
 obtain⟨h1,h2,h3,h4⟩:=hc;obtain⟨k1,k2,k3,k4⟩:=hc';have hs:a.tmps.size=a'.tmps.size:=h2.trans k2.symm
 have hg:∀ t,a.tmps.getD t undef=a'.tmps.getD t undef:=fun t=>by
  by_cases hw:∃ i o,ops[i]? =some o/\L i=true/\o.dst=some t
  ·obtain⟨i,o,ho,hi,ht⟩:=hw
   rw [h3 i o t ho hi ht,k3 i o t ho hi ht,hv i hi]
  ·have hn:∀ i o,ops[i]? =some o->L i=true->o.dst≠some t:=fun i o ho hi ht=>hw ⟨i,o,ho,hi,ht⟩
   rw [h4 t hn,k4 t hn]
 have ht:a.tmps=a'.tmps:=by
  apply Array.ext hs
  intro i hi hi';have:=hg i
  simpa [hi,hi']using this
 cases a;cases a'
 simp_all
theorem Came.congr {L:Nat->Bool}{v v':Nat->Value}{a0 a:Act}(hc:Came ops L v a0 a)(hv:∀ i,L i=true->v' i=v i):Came ops L v' a0 a:=
 ⟨hc.1,hc.2.1,fun i o t ho hi ht=>by rw [hv i hi];exact hc.2.2.1 i o t ho hi ht,hc.2.2.2⟩
theorem xzeq {o:Oper}{a c:Act}(hs:∀ cs b,o.op≠ .select cs b)(hz:a.tmps.size=c.tmps.size)(h:∀ t∈o.looksAt ops,a.tmps.getD t undef=c.tmps.getD t undef):
 execOp a.eval o=execOp c.eval o/\Region.wanted o (yielded ops a.tmps)=Region.wanted o (yielded ops c.tmps):=by
 refine⟨execOp_congr o hs fun x hx=>?_,?_⟩
 ·cases x with
  |tmp t=>exact h t (List.mem_append_left _ (List.mem_filterMap.2 ⟨.tmp t,by simpa using hx,rfl⟩))
  |_=>rfl
 ·unfold Region.wanted
  cases hg:o.guard with
  |none=>rfl
  |some gw=>
   obtain⟨g,want⟩:=gw
   have hy:yielded ops a.tmps g=yielded ops c.tmps g:=by
    unfold yielded
    cases ht:(ops[g]?).bind (·.dst)with
    |none=>rfl
    |some t=>
     have h1:=h t (by simp [Oper.looksAt,hg,ht])
     have h2:a.tmps[t]? =c.tmps[t]? :=by
      rcases Nat.lt_or_ge t a.tmps.size with hlt|hge
      ·have hlt':t<c.tmps.size:=hz▸hlt
       simp [hlt,hlt']at h1
       simp [hlt,hlt',h1]
      ·rw [Array.getElem?_eq_none hge,Array.getElem?_eq_none (hz▸hge)]
     simp only [Option.bind_some,h2]
   simp only [hy]
def looksB (ops:Array Oper)(n h:Nat):Bool:=
 (List.range n).all fun i=>match ops[i]? with
  |none=>false
  |some o=>(o.looksAt ops).all fun t=>(List.range h).all fun j=>decide (j=i)||decide ((ops[j]?).bind (·.dst)≠some t)||(decide (j<i)&&decide (j<n)&&Region.waitsFor .any ops i j)
theorem xzcw {n h:Nat}(hB:looksB ops n h=true){i:Nat}{o:Oper}(hi:i<n)(ho:ops[i]? =some o){t:Tmp}(ht:t∈o.looksAt ops){j:Nat}{oj:Oper}(hj:j<h)(hoj:ops[j]? =some oj)(hd:oj.dst=some t)(hne:j≠i):
 j<i/\j<n/\Region.waitsFor .any ops i j=true:=by
 have h1:=List.all_eq_true.1 hB i (List.mem_range.2 hi);simp only [ho]at h1;have h2:=List.all_eq_true.1 (List.all_eq_true.1 h1 t ht) j (List.mem_range.2 hj);simp only [hoj,Option.bind_some,hd,Bool.or_eq_true,Bool.and_eq_true,decide_eq_true_eq]at h2
 rcases h2 with(h2|h2)|h2
 ·exact absurd h2 hne
 ·exact absurd rfl h2
 ·exact⟨h2.1.1,h2.1.2,h2.2⟩
def ValAt (P:Program)(ops:Array Oper)(C:World->Prop)(a0:Act)(i:Nat)(V:Nat->Value):Prop:=
 ∃ o c,ops[i]? =some o/\Came ops (fun j=>decide (j<i)) V a0 c/\(Region.wanted o (yielded ops c.tmps)=true->∀ w,C w->freeAt P o c w (V i))/\(Region.wanted o (yielded ops c.tmps)=false->V i=undef)
theorem xzfw {h N:Nat}{a0:Act}(hB:distinctB ops h N=true)(hN:a0.tmps.size=N):∀ (l:List Oper) (k:Nat) (c:Act) (V:Nat->Value) (Q:Act->Prop),
 (∀ j,j<l.length->l[j]? =ops[k+j]?)->k+l.length<=h->Came ops (fun j=>decide (j<k)) V a0 c->FreeW P ops C Q l c->
 ∃ V' c',(∀ j,j<k->V' j=V j)/\(∀ i,k<=i->i<k+l.length->ValAt P ops C a0 i V')/\Came ops (fun j=>decide (j<k+l.length)) V' a0 c'/\Q c'
 |[],k,c,V,Q,_,_,hc,hf=>⟨V,c,fun _ _=>rfl,fun i h1 h2=>absurd h2 (by rw [List.length_nil];omega),hc,hf⟩
 |o::l,k,c,V,Q,hl,hk,hc,hf=>by
  have h0:ops[k]? =some o:=by simpa using(hl 0 (by simp)).symm
  have hlen:(o::l).length=l.length+1:=rfl
  have hkh:k<h:=by omega
  have hstep:∃ x,(Region.wanted o (yielded ops c.tmps)=true->∀ w,C w->freeAt P o c w x)/\(Region.wanted o (yielded ops c.tmps)=false->x=undef)/\FreeW P ops C Q l (c.put o.dst x):=by
   unfold FreeW at hf
   by_cases hw:Region.wanted o (yielded ops c.tmps)=true
   ·rw [if_pos hw]at hf
    obtain⟨x,h1,h2⟩:=hf;exact⟨x,fun _=>h1,fun h=>by(rw [hw]at h;cases h),h2⟩
   ·rw [if_neg hw]at hf
    exact⟨undef,fun h=>absurd h hw,fun _=>rfl,hf⟩
  obtain⟨x,hx1,hx2,hf'⟩:=hstep
  have hc':Came ops (fun j=>decide (j<k+1)) (fun j=>if j=k then x else V j) a0 (c.put o.dst x):=
   hc.put hB hN (fun i hi=>by have:=of_decide_eq_true hi;omega) hkh h0 (by simp) x
    (fun j=>by rw [Bool.eq_iff_iff];simp;omega) (fun j hj=>by have:=of_decide_eq_true hj;rw [if_neg (by omega)]) (by simp)
  obtain⟨V',c',k1,k2,k3,k4⟩:=xzfw hB hN l (k+1) _ _ Q (fun j hj=>by have:=hl (j+1) (by simp;omega);simpa [Nat.add_assoc,Nat.add_comm 1 j]using this) (by omega) hc' hf'
  have hVk:V' k=x:=by rw [k1 k (by omega)];simp
  refine⟨V',c',fun j hj=>by rw [k1 j (by omega),if_neg (by omega)],fun i hi1 hi2=>?_,?_,k4⟩
  ·by_cases e:i=k
   ·subst e
    exact⟨o,c,h0,hc.congr fun j hj=>by have:=of_decide_eq_true hj;rw [k1 j (by omega),if_neg (by omega)],by rw [hVk];exact hx1,by rw [hVk];exact hx2⟩
   ·exact k2 i (by omega) (by omega)
  ·rw [show k+(o::l).length=k+1+l.length by omega];exact k3
def acycB (ops:Array Oper)(h:Nat):Bool:=
 (List.range h).all fun i=>match ops[i]? with
  |some o=>o.after.all fun e=> !Region.binds .any e||decide (e.on<i)
  |none=>false
theorem xzlc {h:Nat}(hB:acycB ops h=true){i:Nat}{o:Oper}(hi:i<h)(ho:ops[i]? =some o):∀ e∈o.after,Region.binds .any e=true->e.on<i:=fun e he hb=>by
 have h1:=List.all_eq_true.1 hB i (List.mem_range.2 hi);simp only [ho]at h1;have h2:=Array.all_eq_true_iff_forall_mem.1 h1 e he
 simpa [hb]using h2
def headArr (n h:Nat):Array Bool:=((List.range n).map fun i=>decide (i<h)).toArray
theorem xzbp (n h i:Nat)(b:Bool):(headArr n h).getD i b=if i<n then decide (i<h)else b:=by
 unfold headArr
 by_cases hi:i<n
 ·simp [hi]
 ·simp [hi]
def freeB (ops:Array Oper)(n h N:Nat):Bool:=
 Region.noSelect ops&&decide (n<=h)&&decide (h<=ops.size)&&distinctB ops h N&&looksB ops n h&&acycB ops h&&
  (decide (h=ops.size)||(Region.sinkB .any ops h&&Region.chainB .any ops h))&&Region.seqB .any ops (ops.size - h) h (headArr ops.size h)
def toCome (listed:Array Bool)(h:Nat):Nat:=((List.range h).filter fun i=> !listed.getD i false).length
theorem xzix {p q:Nat->Bool}{i:Nat}:∀ (l:List Nat),l.Nodup->i∈l->p i=true->q i=false->(∀ j,j≠i->q j=p j)->(l.filter q).length+1=(l.filter p).length
 |[],_,h,_,_,_=>by cases h
 |x::l,hn,h,hp,hq,hj=>by
  rw [List.nodup_cons]at hn
  by_cases e:x=i
  ·subst e
   have hf:l.filter q=l.filter p:=List.filter_congr fun j hjl=>hj j (fun e=>hn.1 (by rw [<-e];exact hjl))
   simp [hp,hq,hf]
  ·have h':i∈l:=by
    rcases List.mem_cons.1 h with h|h
    ·exact absurd h.symm e
    ·exact h
   have ih:=xzix l hn.2 h' hp hq hj;rw [List.filter_cons,List.filter_cons,hj x e]
   split
   ·simp only [List.length_cons];omega
   ·exact ih
theorem xzdr {listed:Array Bool}{h i:Nat}(hi:i<h)(hs:i<listed.size)(hu:listed.getD i false=false):toCome (listed.setIfInBounds i true) h+1=toCome listed h:=by
 unfold toCome;refine xzix (i:=i) _ List.nodup_range (List.mem_range.2 hi) (by rw [hu];rfl) (by simp [hs]) (fun j hj=>by rw [getD_set_ne false (Ne.symm hj)])
def Stands (ops:Array Oper)(C:World->Prop)(n h:Nat)(V:Nat->Value)(Z:Nat->Array Value)(T:Nat->TypeId)(a0:Act)(w0:World)(listed:Array Bool)(a:Act)(u:World):Prop:=
 HeadInv .any ops h listed/\∃ g:Nat->Nat,Came ops (fun i=>listed.getD i false) (fun i=>if i<n then V i else .pointer (some ⟨g i,0,none⟩)) a0 a/\C u/\Below w0.heap.size w0 u/\
  (∀ i,n<=i->i<h->listed.getD i false=true->w0.heap.size<=g i/\BlkIs u (g i) (T i) (Z i))/\
  (∀ i j,n<=i->i<j->j<h->listed.getD i false=true->listed.getD j false=true->g i≠g j)
theorem xzdm {n:Nat}{listed:Array Bool}(inv:HeadInv .any ops n listed)(i:Nat)(hi:listed.getD i false=true):i<n:=by
 rcases Nat.lt_or_ge i n with hlt|hge
 ·exact hlt
 ·rcases Nat.lt_or_ge i ops.size with h1|h1
  ·have:=getD_both (inv.tail i hge h1)
   rw [this]at hi;cases hi
  ·have hs:listed.size<=i:=by rw [inv.size];exact h1
   simp [Array.getElem?_eq_none hs]at hi
section step
variable {n h N : Nat} {V : Nat → Value} {Z : Nat → Array Value} {T : Nat → TypeId} {a0 : Act} {w0 : World}
theorem xzsz (hsel:Region.noSelect ops=true)(hnh:n<=h)(hh:h<=ops.size)(hD:distinctB ops h N=true)(hK:looksB ops n h=true)(hN:a0.tmps.size=N)
 (hCs:∀ u u',C u->Below u.heap.size u u'->C u'){Q:Exit->Act->World->Prop}{listed:Array Bool}{a:Act}{u:World}(hst:Stands ops C n h V Z T a0 w0 listed a u)
 {i:Nat} (hi:i<n) (hr:i∈Region.ready .any ops listed) (hv:ValAt P ops C a0 i V):
 wpOp P ops Q i (fun a' u'=>Stands ops C n h V Z T a0 w0 (listed.setIfInBounds i true) a' u') a u:=by
 obtain⟨inv,g,hc,hC,hb,hnew,hdis⟩:=hst;obtain⟨o,c,ho,hcc,hw1,hw2⟩:=hv;obtain⟨hun,o',ho',hall⟩:=mem_ready.1 hr;obtain rfl:o'=o:=Option.some.inj (ho'.symm.trans ho);have hunf:=getD_both hun
 have hlt:=fun j hj=>xzdm inv j hj
 have hsz:a.tmps.size=c.tmps.size:=hc.2.1.trans hcc.2.1.symm
 have hlook:∀ t∈o'.looksAt ops,a.tmps.getD t undef=c.tmps.getD t undef:=fun t ht=>by
  by_cases hwr:∃ j oj,j<h/\ops[j]? =some oj/\oj.dst=some t/\j≠i
  ·obtain⟨j,oj,hj,hoj,hd,hne⟩:=hwr
   obtain⟨h1,h2,h3⟩:=xzcw hK hi ho ht hj hoj hd hne;obtain⟨oi,hoi,e,he,hbd,hon⟩:=Region.waitsFor_spec h3;obtain rfl:oi=o':=Option.some.inj (hoi.symm.trans ho);have hl:=hall e he hbd;rw [hon]at hl;rw [hc.2.2.1 j oj t hoj hl hd,hcc.2.2.1 j oj t hoj (by simpa using h1) hd];exact if_pos h2
  ·have hn1:∀ j oj,ops[j]? =some oj->listed.getD j false=true->oj.dst≠some t:=fun j oj hoj hl hd=>by
    by_cases e:j=i
    ·subst e;rw [hunf]at hl;cases hl
    ·exact hwr ⟨j,oj,hlt j hl,hoj,hd,e⟩
   have hn2:∀ j oj,ops[j]? =some oj->decide (j<i)=true->oj.dst≠some t:=fun j oj hoj hl hd=>
    hwr ⟨j,oj,by have:=of_decide_eq_true hl;omega,hoj,hd,by have:=of_decide_eq_true hl;omega⟩
   rw [hc.2.2.2 t hn1,hcc.2.2.2 t hn2]
 obtain⟨hex,hwa⟩:=xzeq (ops:=ops) (Region.noSelect_spec hsel i o' · · ho) hsz hlook
 have hset:∀ x,x=V i->∀ u',Below u.heap.size u u'->Stands ops C n h V Z T a0 w0 (listed.setIfInBounds i true) (a.put o'.dst x) u':=fun x hx u' hbu=>by
  refine⟨inv.set hr (by omega),g,?_,hCs _ _ hC hbu,hb.trans (hbu.mono hb.size),fun j h1 h2 h3=>?_,fun j k h1 h2 h3 h4 h5=>?_⟩
  ·refine hc.put hD hN (fun j hj=>hlt j hj) (by omega) ho hunf x (fun j=>?_) (fun j _=>rfl) (by rw [hx];exact if_pos hi)
   by_cases e:j=i
   ·subst e
    have:j<listed.size:=by rw [inv.size];omega
    simp [this]
   ·rw [getD_set_ne false (Ne.symm e)];simp [e]
  ·rw [getD_set_ne false (by omega)]at h3
   obtain⟨k1,k2⟩:=hnew j h1 h2 h3;exact⟨k1,k2.step hbu⟩
  ·rw [getD_set_ne false (by omega)]at h4 h5
   exact hdis j k h1 h2 h3 h4 h5
 unfold wpOp;simp only [ho]
 by_cases hw:Region.wanted o' (yielded ops c.tmps)=true
 ·rw [if_pos (by rw [hwa];exact hw)]
  refine .inl ?_;have hf:=hw1 hw u hC;unfold freeAt at hf;rw [<-hex]at hf;unfold Oper.wp;generalize(execOp a.eval o').run P u=r at hf
  cases r with
  |ok nx w'=>
   cases nx<;>simp only [freeUpon]at hf<;>simp only [Oper.upon]
   case value x=>exact hset x hf.2 w' hf.1
   case skip=>exact hset undef hf.2.symm w' hf.1
   case enter f args=>
    obtain⟨rfl,hcall⟩:=hf
    exact hcall.mono fun e w'' ⟨he,hbw⟩=>by subst he;exact hset (V i) rfl w'' hbw
  |halt x w'=>simp only [freeUpon]at hf
 ·rw [if_neg (by rw [hwa];exact hw)]
  exact hset undef (hw2 (by simpa using hw)).symm u (Below.refl _ _)
theorem xzta (hh:h<=ops.size)(hD:distinctB ops h N=true)(hN:a0.tmps.size=N)
 (hCs:∀ u u',C u->Below u.heap.size u u'->C u'){Q:Exit->Act->World->Prop}{listed:Array Bool}{a:Act}{u:World}(hst:Stands ops C n h V Z T a0 w0 listed a u)
 {i:Nat} {o:Oper} (hi1:n<=i) (hi2:i<h) (ho:ops[i]? =some o) (hg:o.guard=none) (hr:i∈Region.ready .any ops listed)
 (hrun:∀ (a:Act) (u:World),(execOp a.eval o).run P u=.ok (.value (.pointer (some ⟨u.heap.size,0,none⟩))) (u.alloc (.cells (Z i) (T i)))):
 wpOp P ops Q i (fun a' u'=>Stands ops C n h V Z T a0 w0 (listed.setIfInBounds i true) a' u') a u:=by
 obtain⟨inv,g,hc,hC,hb,hnew,hdis⟩:=hst;have hun:=(mem_ready.1 hr).1;have hunf:=getD_both hun
 have hlt:=fun j hj=>xzdm inv j hj
 have hbu:Below u.heap.size u (u.alloc (.cells (Z i) (T i))):=(Below.refl _ _).alloc (Nat.le_refl _) _;unfold wpOp;simp only [ho];rw [if_pos (by simp [Region.wanted,hg])];refine .inl ?_;unfold Oper.wp;rw [hrun];simp only [Oper.upon];refine⟨inv.set hr hi2,fun j=>if j=i then u.heap.size else g j,?_,hCs _ _ hC hbu,hb.trans (hbu.mono hb.size),fun j h1 h2 h3=>?_,fun j k h1 h2 h3 h4 h5=>?_⟩
 ·refine hc.put hD hN (fun j hj=>hlt j hj) hi2 ho hunf _ (fun j=>?_) (fun j hj=>?_) (by show(if i<n then V i else Value.pointer (some ⟨if i=i then u.heap.size else g i,0,none⟩))=_;rw [if_neg (by omega),if_pos rfl])
  ·by_cases e:j=i
   ·subst e
    have:j<listed.size:=by rw [inv.size];omega
    simp [this]
   ·rw [getD_set_ne false (Ne.symm e)];simp [e]
  ·have hne:j≠i:=fun e=>by subst e;rw [hunf]at hj;cases hj
   simp [hne]
 ·by_cases e:j=i
  ·subst e
   simp only [if_pos];exact⟨hb.size,BlkIs.new u _ _⟩
  ·rw [getD_set_ne false (Ne.symm e)]at h3
   obtain⟨k1,k2⟩:=hnew j h1 h2 h3;simp only [if_neg e];exact⟨k1,k2.step hbu⟩
 ·by_cases e:j=i
  ·subst e
   have hkj:k≠j:=by omega
   rw [getD_set_ne false (Ne.symm hkj)]at h5;have:=(hnew k (by omega) h3 h5).2.lt;simp only [if_pos,if_neg hkj];omega
  ·by_cases e2:k=i
   ·subst e2
    rw [getD_set_ne false (Ne.symm e)]at h4;have:=(hnew j h1 (by omega) h4).2.lt;simp only [if_neg e,if_pos];omega
   ·rw [getD_set_ne false (Ne.symm e)]at h4
    rw [getD_set_ne false (Ne.symm e2)]at h5;simp only [if_neg e,if_neg e2];exact hdis j k h1 h2 h3 h4 h5
end step
theorem xzcx {listed:Array Bool}{h:Nat}(hz:toCome listed h=0):∀ i,i<h->listed.getD i false=true:=fun i hi=>by
 cases hl:listed.getD i false with
 |true=>rfl
 |false=>
  have hm:i∈(List.range h).filter fun i=> !listed.getD i false:=List.mem_filter.2 ⟨List.mem_range.2 hi,by rw [hl];rfl⟩
  have:=List.length_pos_of_mem hm;unfold toCome at hz;omega
theorem xzcy {h:Nat}{listed:Array Bool}(hh:h<=ops.size)(hA:acycB ops h=true)(hs:listed.size=ops.size):∀ (k i:Nat),i<=k->i<h->listed.getD i false=false->∃ j,j∈Region.ready .any ops listed:=by
 intro k
 induction k with
 |zero=>
  intro i hk hi hu
  have h0:i=0:=by omega
  subst h0;obtain⟨o,ho⟩:∃ o,ops[0]? =some o:=⟨_,Array.getElem?_eq_getElem (by omega)⟩;exact⟨0,mem_ready.2 ⟨getD_in (by omega) hu,o,ho,fun e he hb=>absurd (xzlc hA hi ho e he hb) (by omega)⟩⟩
 |succ k ih=>
  intro i hk hi hu
  by_cases hall:∀ j,j<i->listed.getD j false=true
  ·obtain⟨o,ho⟩:∃ o,ops[i]? =some o:=⟨_,Array.getElem?_eq_getElem (by omega)⟩
   exact⟨i,mem_ready.2 ⟨getD_in (by omega) hu,o,ho,fun e he hb=>hall _ (xzlc hA hi ho e he hb)⟩⟩
  ·obtain⟨j,hj⟩:=Classical.not_forall.1 hall
   have hji:j<i:=Classical.byContradiction fun h=>hj fun h'=>absurd h' h
   have hju:listed.getD j false=false:=by
    cases hl:listed.getD j false with
    |false=>rfl
    |true=>exact absurd (fun _=>hl) hj
   exact ih j (by omega) (by omega) hju
theorem xzcz {h:Nat}{listed:Array Bool}(inv:HeadInv .any ops h listed)(hall:∀ i,i<h->listed.getD i false=true):listed=headArr ops.size h:=by
 have hs:listed.size=(headArr ops.size h).size:=by rw [inv.size];simp [headArr]
 apply Array.ext hs
 intro i h1 h2
 have e1:listed.getD i false=listed[i]:=by simp [h1]
 have e2:(headArr ops.size h).getD i false=(headArr ops.size h)[i]:=by simp [h2]
 have hi:i<ops.size:=by rw [<-inv.size];exact h1
 rw [<-e1,<-e2,xzbp,if_pos hi]
 by_cases hlt:i<h
 ·rw [hall i hlt];simp [hlt]
 ·rw [getD_both (inv.tail i (by omega) hi)];simp [hlt]
section run
variable {n h N : Nat} {V : Nat → Value} {Z : Nat → Array Value} {T : Nat → TypeId} {a0 : Act} {w0 : World} {Q : Exit → Act → World → Prop}
theorem xzyi (hB:freeB ops n h N=true)(hN:a0.tmps.size=N)(hCs:∀ u u',C u->Below u.heap.size u u'->C u')
 (hV:∀ i,i<n->ValAt P ops C a0 i V)
 (hnew:∀ i o,n<=i->i<h->ops[i]? =some o->o.guard=none/\∀ (a:Act) (u:World),(execOp a.eval o).run P u=.ok (.value (.pointer (some ⟨u.heap.size,0,none⟩))) (u.alloc (.cells (Z i) (T i))))
 (hend:∀ a u,Stands ops C n h V Z T a0 w0 (headArr ops.size h) a u->wpList P ops Q (ops.toList.drop h) a u):
 ∀ (d:Nat) (listed:Array Bool) (a:Act) (u:World),toCome listed h=d->Stands ops C n h V Z T a0 w0 listed a u->wpAny P .any ops Q (d+(ops.size - h)) listed a u:=by
 simp only [freeB,Bool.and_eq_true,Bool.or_eq_true,decide_eq_true_eq]at hB;obtain⟨⟨⟨⟨⟨⟨⟨hsel,hnh⟩,hh⟩,hD⟩,hK⟩,hA⟩,hT⟩,hS⟩:=hB;intro d
 induction d with
 |zero=>
  intro listed a u hd hst;have hl:=xzcz hst.1 (xzcx hd);subst hl;have:=wpAny_of_seq (md:=.any) (Q':=Q) (ops.toList.drop h) h (headArr ops.size h) a u (fun j=>by simp) (by simpa using hS) (hend a u hst)
  simpa using this
 |succ d ih=>
  intro listed a u hd hst
  have hex:∃ i,i<h/\listed.getD i false=false:=by
   have hpos:0<((List.range h).filter fun i=> !listed.getD i false).length:=by unfold toCome at hd;omega
   obtain⟨i,hi⟩:=List.exists_mem_of_length_pos hpos;rw [List.mem_filter]at hi;exact⟨i,List.mem_range.1 hi.1,by simpa using hi.2⟩
  obtain⟨i0,hi0,hu0⟩:=hex;have hs:=hst.1.size;obtain⟨j0,hj0⟩:=xzcy hh hA hs i0 i0 (Nat.le_refl _) hi0 hu0;rw [show d+1+(ops.size - h)=(d+(ops.size - h))+1 by omega];refine⟨fun he=>(by rw [he]at hj0;cases hj0),fun i hi=>?_⟩
  have hil:i<ops.size:=by
   obtain⟨_,o,ho,_⟩:=mem_ready.1 hi;exact(Array.getElem?_eq_some_iff.1 ho).1
  have hih:i<h:=by
   rcases Nat.lt_or_ge i h with hlt|hge
   ·exact hlt
   ·rcases hT with hT|hT
    ·omega
    ·exact absurd hi (tail_waits hT.1 hT.2 (by omega) hst.1 (h - i0) i0 rfl hi0 (getD_in (by omega) hu0) i hge)
  have hun:=getD_both (mem_ready.1 hi).1;have hset:=xzdr hih (by omega) hun
  have hnext:∀ a' u',Stands ops C n h V Z T a0 w0 (listed.setIfInBounds i true) a' u'->wpAny P .any ops Q (d+(ops.size - h)) (listed.setIfInBounds i true) a' u':=
   fun a' u' hst'=>ih _ a' u' (by omega) hst'
  rcases Nat.lt_or_ge i n with hlt|hge
  ·exact wpOp_mono hnext (xzsz hsel hnh hh hD hK hN hCs hst hlt hi (hV i hlt))
  ·obtain⟨o,ho⟩:∃ o,ops[i]? =some o:=⟨_,Array.getElem?_eq_getElem hil⟩
   obtain⟨hg,hrun⟩:=hnew i o hge hih ho;exact wpOp_mono hnext (xzta hh hD hN hCs hst hge hih ho hg hi hrun)
end run
def putNews:List Oper->Nat->(Nat->Nat)->Act->Act
 |[],_,_,a=>a
 |o::l,k,g,a=>putNews l (k+1) g (a.put o.dst (.pointer (some ⟨g k,0,none⟩)))
theorem xzou {h N:Nat}{a0:Act}(hD:distinctB ops h N=true)(hN:a0.tmps.size=N)(g:Nat->Nat)(n:Nat)(V:Nat->Value):∀ (l:List Oper) (k:Nat) (a:Act),n<=k->k+l.length<=h->(∀ j,j<l.length->l[j]? =ops[k+j]?)->
 Came ops (fun j=>decide (j<k)) (fun i=>if i<n then V i else .pointer (some ⟨g i,0,none⟩)) a0 a->
 Came ops (fun j=>decide (j<k+l.length)) (fun i=>if i<n then V i else .pointer (some ⟨g i,0,none⟩)) a0 (putNews l k g a)
 |[],_,_,_,_,_,hc=>hc
 |o::l,k,a,hnk,hk,hl,hc=>by
  have h0:ops[k]? =some o:=by simpa using(hl 0 (by simp)).symm
  have hlen:(o::l).length=l.length+1:=rfl
  have hc':=hc.put (L':=fun j=>decide (j<k+1)) (v':=fun i=>if i<n then V i else .pointer (some ⟨g i,0,none⟩)) hD hN (fun i hi=>by have:=of_decide_eq_true hi;omega) (show k<h by omega) h0 (by simp) (.pointer (some ⟨g k,0,none⟩))
   (fun j=>by rw [Bool.eq_iff_iff];simp;omega) (fun _ _=>rfl) (by show(if k<n then _ else _)=_;rw [if_neg (by omega)])
  have:=xzou hD hN g n V l (k+1) _ (by omega) (by omega) (fun j hj=>by have:=hl (j+1) (by simp;omega);simpa [Nat.add_assoc,Nat.add_comm 1 j]using this) hc';rw [show k+(o::l).length=k+1+l.length by omega];exact this
theorem xzka {id:Nat}{l:List Oper}{Q:Exit->Act->World->Prop}{a:Act}{w:World}(n h N:Nat)(C:World->Prop)(Z:Nat->Array Value)(T:Nat->TypeId)
 (hm:P.follows .mixedOrders=true)(hB:freeB l.toArray n h N=true)(hN:a.tmps.size=N)(hC0:C w.drew)(hCs:∀ u u',C u->Below u.heap.size u u'->C u')
 (hnew:∀ i o,n<=i->i<h->l[i]? =some o->o.guard=none/\∀ (a:Act) (u:World),(execOp a.eval o).run P u=.ok (.value (.pointer (some ⟨u.heap.size,0,none⟩))) (u.alloc (.cells (Z i) (T i))))
 (H:FreeW P l.toArray C (fun c=>∀ (g:Nat->Nat) (u:World),C u->Below w.heap.size w u->(∀ i,n<=i->i<h->w.heap.size<=g i/\BlkIs u (g i) (T i) (Z i))->(∀ i j,n<=i->i<j->j<h->g i≠g j)->
  wpList P l.toArray Q (l.drop h) (putNews ((l.drop n).take (h - n)) n g c) u) (l.take n) a):(Code.region id l.toArray true).wp P Q a w:=by
 have hB':=hB;simp only [freeB,Bool.and_eq_true,Bool.or_eq_true,decide_eq_true_eq]at hB';obtain⟨⟨⟨⟨⟨⟨⟨hsel,hnh⟩,hh⟩,hD⟩,hK⟩,hA⟩,hT⟩,hS⟩:=hB'
 have hh':h<=l.length:=by simpa using hh
 have hlen:(l.take n).length=n:=by simp;omega
 have hc0:Came l.toArray (fun j=>decide (j<0)) (fun _=>undef) a a:=
  ⟨rfl,rfl,fun i o t _ hi=>by simp at hi,fun _ _=>rfl⟩
 obtain⟨V,c,_,hV,hcV,hK2⟩:=xzfw hD hN (l.take n) 0 a _ _ (fun j hj=>by rw [hlen]at hj;simp [hj]) (by omega) hc0 H;rw [hlen]at hV hcV;simp only [Nat.zero_add]at hV hcV;refine wp_region_any hm ?_
 have inv0:HeadInv .any l.toArray h (Array.replicate l.toArray.size false):=
  ⟨by simp,fun j oj _ hl=>(by rw [getD_replicate_false]at hl;cases hl),fun t _ ht=>getD_in (by simpa using ht) (getD_replicate_false _ _)⟩
 have hst0:Stands l.toArray C n h V Z T a w (Array.replicate l.toArray.size false) a w.drew:=by
  refine⟨inv0,fun _=>0,⟨rfl,rfl,fun i o t _ hi=>?_,fun _ _=>rfl⟩,hC0,(Below.refl _ _).drew,fun i _ _ hl=>?_,fun i j _ _ _ hl=>?_⟩
  ·have hi':(Array.replicate l.toArray.size false).getD i false=true:=hi
   rw [getD_replicate_false]at hi';cases hi'
  ·rw [getD_replicate_false]at hl;cases hl
  ·rw [getD_replicate_false]at hl;cases hl
 have hcome:toCome (Array.replicate l.toArray.size false) h=h:=by
  unfold toCome;rw [List.filter_eq_self.2 (fun i _=>by rw [getD_replicate_false];rfl)]
  simp
 have:=xzyi (P:=P) (Q:=Q) hB hN hCs (fun i hi=>hV i (Nat.zero_le _) hi) (fun i o h1 h2 h3=>hnew i o h1 h2 (by simpa using h3)) (fun a' u hst=>?_) h _ a w.drew hcome hst0
 ·rw [show h+(l.toArray.size - h)=l.toArray.size by omega]at this
  exact this
 ·obtain⟨inv,g,hc,hC,hb,hn,hdis⟩:=hst
  have hg:∀ i,i<h->(headArr l.toArray.size h).getD i false=true:=fun i hi=>by rw [xzbp,if_pos (by omega)];simpa using hi
  have hcall:Came l.toArray (fun j=>decide (j<h)) (fun i=>if i<n then V i else .pointer (some ⟨g i,0,none⟩)) a a':=by
   refine⟨hc.1,hc.2.1,fun i o t ho hi ht=>hc.2.2.1 i o t ho (hg i (of_decide_eq_true hi)) ht,fun t ht=>hc.2.2.2 t fun i o ho hi=>ht i o ho ?_⟩;have:=xzdm inv i hi
   simpa using this
  have hcn:=xzou hD hN g n V ((l.drop n).take (h - n)) n c (Nat.le_refl _) (by simp;omega) (fun j hj=>by
   have hj':j<h - n:=by simp at hj;omega
   simp [hj']) (hcV.congr fun j hj=>by have:=of_decide_eq_true hj;rw [if_pos this])
  rw [show n+((l.drop n).take (h - n)).length=h by simp;omega]at hcn;have he:=hcall.unique hcn (fun _ _=>rfl);subst he;have:=hK2 g u hC hb (fun i h1 h2=>hn i h1 h2 (hg i h2)) (fun i j h1 h2 h3=>hdis i j h1 h2 h3 (hg i (by omega)) (hg j h3))
  simpa using this
theorem xzit {id:Nat}{l:List Oper}{Q:Exit->Act->World->Prop}{a:Act}{w:World}(N:Nat)(C:World->Prop)
 (hm:P.follows .mixedOrders=true)(hB:freeB l.toArray l.length l.length N=true)(hN:a.tmps.size=N)(hC0:C w.drew)(hCs:∀ u u',C u->Below u.heap.size u u'->C u')
 (H:FreeW P l.toArray C (fun c=>∀ u:World,C u->Below w.heap.size w u->Q .normal c u) l a):(Code.region id l.toArray true).wp P Q a w:=
 xzka l.length l.length N C (fun _=>#[]) (fun _=>0) hm hB hN hC0 hCs (fun i o h1 h2=>absurd h1 (by omega)) (by
  rw [List.take_length];refine xzgw (fun c hc=>?_) l a H;intro g u h1 h2 _ _;rw [List.drop_length,Nat.sub_self]
  exact hc u h1 h2)
end free
end
end Go.Proofs.YtdjpphjpnkfeiaaGreatDoor
