/-
 WHETHER A NODE MAY BE, BY PACKAGE rx: the forms of the five kinds, the array of them, may: contracts. No condition.
-/
import Derived.Deep.RegionHeld3
import Derived.BigQuiet
import Derived.Test.YthoaaginadjaoaaQG03
import Derived.Test.YthoaaginadjaoaaQG04
import Derived.Test.YthoaaginadjaoaaQG08
namespace Go.Proofs.Ythoaaginadjaoaa
section
open Go.RowKit
def byteMayB (n:Nat)(lo hi:Int):Bool:=decide (n=0)&&(decide (lo=0)&&decide (hi=0))
def emptyMayB (m:Nat->Bool)(n:Nat)(lo hi:Int):Bool:=setEq m (fun _=>false)&&byteMayB n lo hi
def rowMayB (m:Nat->Bool)(n:Nat)(lo hi:Int):Bool:=setEq m (fun _=>false)&&(decide (2<=n)&&(decide (lo=0)&&decide (hi=0)))
def repMayB (m:Nat->Bool)(n:Nat)(lo hi:Int):Bool:=setEq m (fun _=>false)&&(decide (n=1)&&(decide (0<=lo)&&(decide (lo<=64)&&(decide (hi= -1)||(decide (lo<=hi)&&decide (hi<=64))))))
set_option maxHeartbeats 1000000 in
theorem xzgx (k:Int)(m:Nat->Bool)(A:Option Addr)(n c:Nat)(lo hi:Int)(w:World):
 Calls Try.prog 62 #[reV k m A n c lo hi] w fun e w'=>e=.returned (.bool (byteMayB n lo hi))/\Below w.heap.size w w':=by
 unfold reV reL byteMayB;have hbox:=BlkIs.new w 78 (reL k m A n c lo hi).toArray;unfold reL at hbox;obtain⟨c0,c1,c2,c3,c4,c5,c6,c7⟩:=hbox.eight;clear hbox;have b0:Below w.heap.size w (w.alloc (.cells #[.int .i64 k,.int .u64 (wd m 0:Nat),.int .u64 (wd m 1:Nat),.int .u64 (wd m 2:Nat),.int .u64 (wd m 3:Nat),.slice A n c,.int .i64 lo,.int .i64 hi] 78)):=(Below.refl _ _).alloc (Nat.le_refl _) _;have HB:=zd b0;clear b0
 by_cases h1:n=0
 ·subst h1
  by_cases h2:lo=0
  ·subst h2
   by_cases h3:hi=0
   ·subst h3
    go_enter Try.func62,Try.ntmps62
    go_wp2;go_ret;exact⟨rfl,HB.out⟩
   ·have e3:(hi==0)=false:=by simp [h3]
    have d3:decide (hi=0)=false:=by simp [h3]
    rw [d3]
    go_enter Try.func62,Try.ntmps62
    go_wp2;go_ret;exact⟨rfl,HB.out⟩
  ·have e2:(lo==0)=false:=by simp [h2]
   have d2:decide (lo=0)=false:=by simp [h2]
   rw [d2]
   go_enter Try.func62,Try.ntmps62
   go_wp2;go_ret;exact⟨rfl,HB.out⟩
 ·have e1:((n:Int)==0)=false:=by simp;omega
  have d1:decide (n=0)=false:=by simp [h1]
  rw [d1]
  go_enter Try.func62,Try.ntmps62
  go_wp2;go_ret;exact⟨rfl,HB.out⟩
set_option maxHeartbeats 1000000 in
theorem xzjo (k:Int)(m:Nat->Bool)(A:Option Addr)(n c:Nat)(lo hi:Int)(w:World):
 Calls Try.prog 61 #[reV k m A n c lo hi] w fun e w'=>e=.returned (.bool (emptyMayB m n lo hi))/\Below w.heap.size w w':=by
 have hcall:=fun u=>xzgx k m A n c lo hi u
 have hne:=xzgt m (fun _=>false);rw [xzdt]at hne;unfold setV at hne;unfold reV reL emptyMayB at*;generalize byteMayB n lo hi=q at*;have hbox:=BlkIs.new w 78 (reL k m A n c lo hi).toArray;unfold reL at hbox;obtain⟨c0,c1,c2,c3,c4,c5,c6,c7⟩:=hbox.eight;clear hbox;have b0:Below w.heap.size w (w.alloc (.cells #[.int .i64 k,.int .u64 (wd m 0:Nat),.int .u64 (wd m 1:Nat),.int .u64 (wd m 2:Nat),.int .u64 (wd m 3:Nat),.slice A n c,.int .i64 lo,.int .i64 hi] 78)):=(Below.refl _ _).alloc (Nat.le_refl _) _;have HB:=zd b0;have HC:=zd hcall;clear b0 hcall;generalize hs:setEq m (fun _=>false)=y at*
 cases y
 ·go_enter Try.func61,Try.ntmps61
  go_wp2;go_ret;exact⟨rfl,HB.out⟩
 ·rw [Bool.true_and]
  go_enter Try.func61,Try.ntmps61
  go_wp2_with fail
  refine(HC.out _).mono ?_;rintro e w1 ⟨rfl,hb1⟩;have HB1:=zd (HB.out.trans (hb1.mono HB.out.size));clear hb1;go_wp2;go_ret;exact⟨rfl,HB1.out⟩
set_option maxHeartbeats 2000000 in
theorem xzic (k:Int)(m:Nat->Bool)(A:Option Addr)(n c:Nat)(lo hi:Int)(w:World):
 Calls Try.prog 63 #[reV k m A n c lo hi] w fun e w'=>e=.returned (.bool (rowMayB m n lo hi))/\Below w.heap.size w w':=by
 have hne:=xzgt m (fun _=>false);rw [xzdt]at hne;unfold setV at hne;unfold reV reL;have hbox:=BlkIs.new w 78 (reL k m A n c lo hi).toArray;unfold reL at hbox;obtain⟨c0,c1,c2,c3,c4,c5,c6,c7⟩:=hbox.eight;clear hbox;have b0:Below w.heap.size w (w.alloc (.cells #[.int .i64 k,.int .u64 (wd m 0:Nat),.int .u64 (wd m 1:Nat),.int .u64 (wd m 2:Nat),.int .u64 (wd m 3:Nat),.slice A n c,.int .i64 lo,.int .i64 hi] 78)):=(Below.refl _ _).alloc (Nat.le_refl _) _;have HB:=zd b0;clear b0;obtain⟨R,hR⟩:∃ R,rowMayB m n lo hi=R:=⟨_,rfl⟩;rw [hR];unfold rowMayB at hR;have HR:=zd hR;clear hR;generalize hs:setEq m (fun _=>false)=y at*
 go_enter Try.func63,Try.ntmps63
 go_wp2
 all_goals (
  go_ret;refine⟨?_,(Below.refl _ _).alloc (Nat.le_refl _) _⟩;rw [<-HR.out];refine congrArg (fun b=>Ending.returned (Value.bool b)) ?_;clear HR HB hne
  first|(simp_all;done)|(simp_all;omega)|grind)
set_option maxHeartbeats 4000000 in
theorem xznv (k:Int)(m:Nat->Bool)(A:Option Addr)(n c:Nat)(lo hi:Int)(w:World):
 Calls Try.prog 64 #[reV k m A n c lo hi] w fun e w'=>e=.returned (.bool (repMayB m n lo hi))/\Below w.heap.size w w':=by
 have hne:=xzgt m (fun _=>false);rw [xzdt]at hne;unfold setV at hne;unfold reV reL;have hbox:=BlkIs.new w 78 (reL k m A n c lo hi).toArray;unfold reL at hbox;obtain⟨c0,c1,c2,c3,c4,c5,c6,c7⟩:=hbox.eight;clear hbox;obtain⟨R,hR⟩:∃ R,repMayB m n lo hi=R:=⟨_,rfl⟩;rw [hR];unfold repMayB at hR;have HR:=zd hR;clear hR;generalize hs:setEq m (fun _=>false)=y at*
 go_enter Try.func64,Try.ntmps64
 go_wp2
 all_goals (
  go_ret;refine⟨?_,(Below.refl _ _).alloc (Nat.le_refl _) _⟩;rw [<-HR.out];refine congrArg (fun b=>Ending.returned (Value.bool b)) ?_;clear HR hne
  first|(simp_all;done)|(simp_all;omega)|grind)
def formsA:Array Value:=#[.func (.func 61) #[] #[],.func (.func 62) #[] #[],.func (.func 63) #[] #[],.func (.func 63) #[] #[],.func (.func 64) #[] #[]]
theorem xzdk {B:Nat}{w0:World}(g:Nat):∀ (vs:List Value) (o:Nat) (w:World),B<=g->Below B w0 w->Below B w0 (w.setCells g o vs)
 |[],_,_,_,h=>h
 |v::r,o,w,hg,h=>by
  rw [World.setCells];exact xzdk g r (o+1) _ hg (h.setCell (p:=⟨g,o,none⟩) hg v)
theorem xzid:(Try.prog.info? 94).map (·.size)=some 5:=by kernel_rfl
theorem formsOne:formsA.all (·.oneCell')=true:=by simp [formsA,Value.oneCell']
theorem xzdy (w:World):Calls Try.prog 52 #[] w fun e w'=>e=.returned (.agg formsA)/\Below w.heap.size w w':=by
 have hr:=BlkIs.new w 94 #[Value.nilFunc,Value.nilFunc,Value.nilFunc,Value.nilFunc,Value.nilFunc];have hw:=hr.fill (new:=formsA) rfl;have hB:=xzdk w.heap.size formsA.toList 0 _ (Nat.le_refl _) ((Below.refl w.heap.size w).alloc (Nat.le_refl _) (.cells #[Value.nilFunc,Value.nilFunc,Value.nilFunc,Value.nilFunc,Value.nilFunc] 94));have hl:=run_loadVar_mid (P:=Try.prog) _ w.heap.size 0 94 formsA.toList _ hw.range Try.underlying94 rfl xzid;have HB:=zd hB;have HL:=zd hl;have HR:=zd hr;clear hw hB hl hr
 go_enter Try.func52,Try.ntmps52
 go_wp2_with(first|refine wpList_store_mid rfl 94 (.tmp 0) (.tmp 1) rfl w.heap.size 0 formsA rfl rfl HR.out.there xzid formsOne ?_)
 exact bodyPost_ret (xzaf rfl (by simp [Act.put]) HL.out) rfl ⟨rfl,HB.out⟩
def nodeMayB (k:Int)(m:Nat->Bool)(n:Nat)(lo hi:Int):Bool:=
 if k=0 then emptyMayB m n lo hi else if k=1 then byteMayB n lo hi else if k=2\/k=3 then rowMayB m n lo hi else if k=4 then repMayB m n lo hi else false
theorem xznw (k:Int)(m:Nat->Bool)(n:Nat)(lo hi:Int):nodeMayB k m n lo hi=okNode k m n lo hi:=by
 unfold nodeMayB okNode emptyMayB byteMayB rowMayB repMayB;generalize setEq m (fun _=>false)=y
 by_cases h0:k=0
 ·subst h0;cases y<;>by_cases e1:n=0<;>by_cases e2:lo=0<;>by_cases e3:hi=0<;>simp [e1,e2,e3]
 by_cases h1:k=1
 ·subst h1;cases y<;>by_cases e1:n=0<;>by_cases e2:lo=0<;>by_cases e3:hi=0<;>simp [e1,e2,e3]
 by_cases h2:k=2\/k=3
 ·have h4:k≠4:=by omega
  cases y<;>by_cases e1:2<=n<;>by_cases e2:lo=0<;>by_cases e3:hi=0<;>simp [h0,h1,h2,h4,e1,e2,e3]
 by_cases h4:k=4
 ·subst h4;cases y
  ·simp
  ·rw [Bool.eq_iff_iff];simp
 simp [h0,h1,h2,h4]
set_option maxRecDepth 100000 in
set_option maxHeartbeats 4000000 in
theorem may_in0 (m:Nat->Bool)(A:Option Addr)(n c:Nat)(lo hi:Int)(w:World):
 Calls Try.prog 41 #[reV 0 m A n c lo hi] w fun e w'=>e=.returned (.bool (emptyMayB m n lo hi))/\Below w.heap.size w w':=by
 have hcall:=fun u=>xzjo 0 m A n c lo hi u
 generalize emptyMayB m n lo hi=q at*;unfold reV reL at*;have hbox:=BlkIs.new w 78 (reL 0 m A n c lo hi).toArray;have b0:Below w.heap.size w (w.alloc (.cells (reL 0 m A n c lo hi).toArray 78)):=(Below.refl _ _).alloc (Nat.le_refl _) _;unfold reL at hbox b0
 have hix:∀ u,(Instr.index 94 (.agg formsA) (.int .i64 0)).run Try.prog u=.ok (.func (.func 61) #[] #[]) u:=fun u=>by kernel_rfl
 go_enter Try.func41,Try.ntmps41
 go_wp2;generalize w.alloc (.cells #[.int .i64 0,.int .u64 (wd m 0:Nat),.int .u64 (wd m 1:Nat),.int .u64 (wd m 2:Nat),.int .u64 (wd m 3:Nat),.slice A n c,.int .i64 lo,.int .i64 hi] 78)=w2 at*;obtain⟨c0,c1,c2,c3,c4,c5,c6,c7⟩:=hbox.eight;have HX:=zd hbox;have HB:=zd b0;have HC:=zd hcall;clear hbox b0 hcall
 go_region_held3 (fun w'=>Below w2.heap.size w2 w'/\w'.cell? ⟨w.heap.size,0,none⟩=some (.int .i64 0)/\w'.cell? ⟨w.heap.size,1,none⟩=some (.int .u64 (wd m 0:Nat))/\w'.cell? ⟨w.heap.size,2,none⟩=some (.int .u64 (wd m 1:Nat))/\
  w'.cell? ⟨w.heap.size,3,none⟩=some (.int .u64 (wd m 2:Nat))/\w'.cell? ⟨w.heap.size,4,none⟩=some (.int .u64 (wd m 3:Nat))/\w'.cell? ⟨w.heap.size,5,none⟩=some (.slice A n c)/\w'.cell? ⟨w.heap.size,6,none⟩=some (.int .i64 lo)/\w'.cell? ⟨w.heap.size,7,none⟩=some (.int .i64 hi))
  ((first
    |(have hb3:=(by assumption:Below w2.heap.size w2 _/\_).1.trans (hb1.mono (by assumption:Below w2.heap.size w2 _/\_).1.size);exact⟨hb3,(HX.out.step hb3).eight⟩)
    |exact⟨(Below.refl _ _).drew,HX.out.eight⟩
    |assumption
    |go_keep))
  ((first
    |(go_at_call 52;go_must(refine(xzdy _).mono ?_);rintro e w1 ⟨rfl,hb1⟩)
    |(go_at_call 61;go_must(refine(HC.out _).mono ?_);rintro e w1 ⟨rfl,hb1⟩)))
 have hS:=(by assumption:Below w2.heap.size w2 w1/\_).1;have HS:=zd (HB.out.trans (hS.mono HB.out.size));clear hS;go_wp2;go_ret;exact⟨rfl,HS.out⟩
set_option maxRecDepth 100000 in
set_option maxHeartbeats 4000000 in
theorem may_in1 (m:Nat->Bool)(A:Option Addr)(n c:Nat)(lo hi:Int)(w:World):
 Calls Try.prog 41 #[reV 1 m A n c lo hi] w fun e w'=>e=.returned (.bool (byteMayB n lo hi))/\Below w.heap.size w w':=by
 have hcall:=fun u=>xzgx 1 m A n c lo hi u
 generalize byteMayB n lo hi=q at*;unfold reV reL at*;have hbox:=BlkIs.new w 78 (reL 1 m A n c lo hi).toArray;have b0:Below w.heap.size w (w.alloc (.cells (reL 1 m A n c lo hi).toArray 78)):=(Below.refl _ _).alloc (Nat.le_refl _) _;unfold reL at hbox b0
 have hix:∀ u,(Instr.index 94 (.agg formsA) (.int .i64 1)).run Try.prog u=.ok (.func (.func 62) #[] #[]) u:=fun u=>by kernel_rfl
 go_enter Try.func41,Try.ntmps41
 go_wp2;generalize w.alloc (.cells #[.int .i64 1,.int .u64 (wd m 0:Nat),.int .u64 (wd m 1:Nat),.int .u64 (wd m 2:Nat),.int .u64 (wd m 3:Nat),.slice A n c,.int .i64 lo,.int .i64 hi] 78)=w2 at*;obtain⟨c0,c1,c2,c3,c4,c5,c6,c7⟩:=hbox.eight;have HX:=zd hbox;have HB:=zd b0;have HC:=zd hcall;clear hbox b0 hcall
 go_region_held3 (fun w'=>Below w2.heap.size w2 w'/\w'.cell? ⟨w.heap.size,0,none⟩=some (.int .i64 1)/\w'.cell? ⟨w.heap.size,1,none⟩=some (.int .u64 (wd m 0:Nat))/\w'.cell? ⟨w.heap.size,2,none⟩=some (.int .u64 (wd m 1:Nat))/\
  w'.cell? ⟨w.heap.size,3,none⟩=some (.int .u64 (wd m 2:Nat))/\w'.cell? ⟨w.heap.size,4,none⟩=some (.int .u64 (wd m 3:Nat))/\w'.cell? ⟨w.heap.size,5,none⟩=some (.slice A n c)/\w'.cell? ⟨w.heap.size,6,none⟩=some (.int .i64 lo)/\w'.cell? ⟨w.heap.size,7,none⟩=some (.int .i64 hi))
  ((first
    |(have hb3:=(by assumption:Below w2.heap.size w2 _/\_).1.trans (hb1.mono (by assumption:Below w2.heap.size w2 _/\_).1.size);exact⟨hb3,(HX.out.step hb3).eight⟩)
    |exact⟨(Below.refl _ _).drew,HX.out.eight⟩
    |assumption
    |go_keep))
  ((first
    |(go_at_call 52;go_must(refine(xzdy _).mono ?_);rintro e w1 ⟨rfl,hb1⟩)
    |(go_at_call 62;go_must(refine(HC.out _).mono ?_);rintro e w1 ⟨rfl,hb1⟩)))
 have hS:=(by assumption:Below w2.heap.size w2 w1/\_).1;have HS:=zd (HB.out.trans (hS.mono HB.out.size));clear hS;go_wp2;go_ret;exact⟨rfl,HS.out⟩
set_option maxRecDepth 100000 in
set_option maxHeartbeats 4000000 in
theorem may_in2 (m:Nat->Bool)(A:Option Addr)(n c:Nat)(lo hi:Int)(w:World):
 Calls Try.prog 41 #[reV 2 m A n c lo hi] w fun e w'=>e=.returned (.bool (rowMayB m n lo hi))/\Below w.heap.size w w':=by
 have hcall:=fun u=>xzic 2 m A n c lo hi u
 generalize rowMayB m n lo hi=q at*;unfold reV reL at*;have hbox:=BlkIs.new w 78 (reL 2 m A n c lo hi).toArray;have b0:Below w.heap.size w (w.alloc (.cells (reL 2 m A n c lo hi).toArray 78)):=(Below.refl _ _).alloc (Nat.le_refl _) _;unfold reL at hbox b0
 have hix:∀ u,(Instr.index 94 (.agg formsA) (.int .i64 2)).run Try.prog u=.ok (.func (.func 63) #[] #[]) u:=fun u=>by kernel_rfl
 go_enter Try.func41,Try.ntmps41
 go_wp2;generalize w.alloc (.cells #[.int .i64 2,.int .u64 (wd m 0:Nat),.int .u64 (wd m 1:Nat),.int .u64 (wd m 2:Nat),.int .u64 (wd m 3:Nat),.slice A n c,.int .i64 lo,.int .i64 hi] 78)=w2 at*;obtain⟨c0,c1,c2,c3,c4,c5,c6,c7⟩:=hbox.eight;have HX:=zd hbox;have HB:=zd b0;have HC:=zd hcall;clear hbox b0 hcall
 go_region_held3 (fun w'=>Below w2.heap.size w2 w'/\w'.cell? ⟨w.heap.size,0,none⟩=some (.int .i64 2)/\w'.cell? ⟨w.heap.size,1,none⟩=some (.int .u64 (wd m 0:Nat))/\w'.cell? ⟨w.heap.size,2,none⟩=some (.int .u64 (wd m 1:Nat))/\
  w'.cell? ⟨w.heap.size,3,none⟩=some (.int .u64 (wd m 2:Nat))/\w'.cell? ⟨w.heap.size,4,none⟩=some (.int .u64 (wd m 3:Nat))/\w'.cell? ⟨w.heap.size,5,none⟩=some (.slice A n c)/\w'.cell? ⟨w.heap.size,6,none⟩=some (.int .i64 lo)/\w'.cell? ⟨w.heap.size,7,none⟩=some (.int .i64 hi))
  ((first
    |(have hb3:=(by assumption:Below w2.heap.size w2 _/\_).1.trans (hb1.mono (by assumption:Below w2.heap.size w2 _/\_).1.size);exact⟨hb3,(HX.out.step hb3).eight⟩)
    |exact⟨(Below.refl _ _).drew,HX.out.eight⟩
    |assumption
    |go_keep))
  ((first
    |(go_at_call 52;go_must(refine(xzdy _).mono ?_);rintro e w1 ⟨rfl,hb1⟩)
    |(go_at_call 63;go_must(refine(HC.out _).mono ?_);rintro e w1 ⟨rfl,hb1⟩)))
 have hS:=(by assumption:Below w2.heap.size w2 w1/\_).1;have HS:=zd (HB.out.trans (hS.mono HB.out.size));clear hS;go_wp2;go_ret;exact⟨rfl,HS.out⟩
set_option maxRecDepth 100000 in
set_option maxHeartbeats 4000000 in
theorem may_in3 (m:Nat->Bool)(A:Option Addr)(n c:Nat)(lo hi:Int)(w:World):
 Calls Try.prog 41 #[reV 3 m A n c lo hi] w fun e w'=>e=.returned (.bool (rowMayB m n lo hi))/\Below w.heap.size w w':=by
 have hcall:=fun u=>xzic 3 m A n c lo hi u
 generalize rowMayB m n lo hi=q at*;unfold reV reL at*;have hbox:=BlkIs.new w 78 (reL 3 m A n c lo hi).toArray;have b0:Below w.heap.size w (w.alloc (.cells (reL 3 m A n c lo hi).toArray 78)):=(Below.refl _ _).alloc (Nat.le_refl _) _;unfold reL at hbox b0
 have hix:∀ u,(Instr.index 94 (.agg formsA) (.int .i64 3)).run Try.prog u=.ok (.func (.func 63) #[] #[]) u:=fun u=>by kernel_rfl
 go_enter Try.func41,Try.ntmps41
 go_wp2;generalize w.alloc (.cells #[.int .i64 3,.int .u64 (wd m 0:Nat),.int .u64 (wd m 1:Nat),.int .u64 (wd m 2:Nat),.int .u64 (wd m 3:Nat),.slice A n c,.int .i64 lo,.int .i64 hi] 78)=w2 at*;obtain⟨c0,c1,c2,c3,c4,c5,c6,c7⟩:=hbox.eight;have HX:=zd hbox;have HB:=zd b0;have HC:=zd hcall;clear hbox b0 hcall
 go_region_held3 (fun w'=>Below w2.heap.size w2 w'/\w'.cell? ⟨w.heap.size,0,none⟩=some (.int .i64 3)/\w'.cell? ⟨w.heap.size,1,none⟩=some (.int .u64 (wd m 0:Nat))/\w'.cell? ⟨w.heap.size,2,none⟩=some (.int .u64 (wd m 1:Nat))/\
  w'.cell? ⟨w.heap.size,3,none⟩=some (.int .u64 (wd m 2:Nat))/\w'.cell? ⟨w.heap.size,4,none⟩=some (.int .u64 (wd m 3:Nat))/\w'.cell? ⟨w.heap.size,5,none⟩=some (.slice A n c)/\w'.cell? ⟨w.heap.size,6,none⟩=some (.int .i64 lo)/\w'.cell? ⟨w.heap.size,7,none⟩=some (.int .i64 hi))
  ((first
    |(have hb3:=(by assumption:Below w2.heap.size w2 _/\_).1.trans (hb1.mono (by assumption:Below w2.heap.size w2 _/\_).1.size);exact⟨hb3,(HX.out.step hb3).eight⟩)
    |exact⟨(Below.refl _ _).drew,HX.out.eight⟩
    |assumption
    |go_keep))
  ((first
    |(go_at_call 52;go_must(refine(xzdy _).mono ?_);rintro e w1 ⟨rfl,hb1⟩)
    |(go_at_call 63;go_must(refine(HC.out _).mono ?_);rintro e w1 ⟨rfl,hb1⟩)))
 have hS:=(by assumption:Below w2.heap.size w2 w1/\_).1;have HS:=zd (HB.out.trans (hS.mono HB.out.size));clear hS;go_wp2;go_ret;exact⟨rfl,HS.out⟩
set_option maxRecDepth 100000 in
set_option maxHeartbeats 4000000 in
theorem may_in4 (m:Nat->Bool)(A:Option Addr)(n c:Nat)(lo hi:Int)(w:World):
 Calls Try.prog 41 #[reV 4 m A n c lo hi] w fun e w'=>e=.returned (.bool (repMayB m n lo hi))/\Below w.heap.size w w':=by
 have hcall:=fun u=>xznv 4 m A n c lo hi u
 generalize repMayB m n lo hi=q at*;unfold reV reL at*;have hbox:=BlkIs.new w 78 (reL 4 m A n c lo hi).toArray;have b0:Below w.heap.size w (w.alloc (.cells (reL 4 m A n c lo hi).toArray 78)):=(Below.refl _ _).alloc (Nat.le_refl _) _;unfold reL at hbox b0
 have hix:∀ u,(Instr.index 94 (.agg formsA) (.int .i64 4)).run Try.prog u=.ok (.func (.func 64) #[] #[]) u:=fun u=>by kernel_rfl
 go_enter Try.func41,Try.ntmps41
 go_wp2;generalize w.alloc (.cells #[.int .i64 4,.int .u64 (wd m 0:Nat),.int .u64 (wd m 1:Nat),.int .u64 (wd m 2:Nat),.int .u64 (wd m 3:Nat),.slice A n c,.int .i64 lo,.int .i64 hi] 78)=w2 at*;obtain⟨c0,c1,c2,c3,c4,c5,c6,c7⟩:=hbox.eight;have HX:=zd hbox;have HB:=zd b0;have HC:=zd hcall;clear hbox b0 hcall
 go_region_held3 (fun w'=>Below w2.heap.size w2 w'/\w'.cell? ⟨w.heap.size,0,none⟩=some (.int .i64 4)/\w'.cell? ⟨w.heap.size,1,none⟩=some (.int .u64 (wd m 0:Nat))/\w'.cell? ⟨w.heap.size,2,none⟩=some (.int .u64 (wd m 1:Nat))/\
  w'.cell? ⟨w.heap.size,3,none⟩=some (.int .u64 (wd m 2:Nat))/\w'.cell? ⟨w.heap.size,4,none⟩=some (.int .u64 (wd m 3:Nat))/\w'.cell? ⟨w.heap.size,5,none⟩=some (.slice A n c)/\w'.cell? ⟨w.heap.size,6,none⟩=some (.int .i64 lo)/\w'.cell? ⟨w.heap.size,7,none⟩=some (.int .i64 hi))
  ((first
    |(have hb3:=(by assumption:Below w2.heap.size w2 _/\_).1.trans (hb1.mono (by assumption:Below w2.heap.size w2 _/\_).1.size);exact⟨hb3,(HX.out.step hb3).eight⟩)
    |exact⟨(Below.refl _ _).drew,HX.out.eight⟩
    |assumption
    |go_keep))
  ((first
    |(go_at_call 52;go_must(refine(xzdy _).mono ?_);rintro e w1 ⟨rfl,hb1⟩)
    |(go_at_call 64;go_must(refine(HC.out _).mono ?_);rintro e w1 ⟨rfl,hb1⟩)))
 have hS:=(by assumption:Below w2.heap.size w2 w1/\_).1;have HS:=zd (HB.out.trans (hS.mono HB.out.size));clear hS;go_wp2;go_ret;exact⟨rfl,HS.out⟩
set_option maxRecDepth 100000 in
set_option maxHeartbeats 2000000 in
theorem may_out (k:Int)(m:Nat->Bool)(A:Option Addr)(n c:Nat)(lo hi:Int)(w:World)(hk:k<0\/5<=k):
 Calls Try.prog 41 #[reV k m A n c lo hi] w fun e w'=>e=.returned (.bool false)/\Below w.heap.size w w':=by
 unfold reV reL at*;have hbox:=BlkIs.new w 78 (reL k m A n c lo hi).toArray;have b0:Below w.heap.size w (w.alloc (.cells (reL k m A n c lo hi).toArray 78)):=(Below.refl _ _).alloc (Nat.le_refl _) _;unfold reL at hbox b0
 go_enter Try.func41,Try.ntmps41
 go_wp2;generalize w.alloc (.cells #[.int .i64 k,.int .u64 (wd m 0:Nat),.int .u64 (wd m 1:Nat),.int .u64 (wd m 2:Nat),.int .u64 (wd m 3:Nat),.slice A n c,.int .i64 lo,.int .i64 hi] 78)=w2 at*;obtain⟨c0,c1,c2,c3,c4,c5,c6,c7⟩:=hbox.eight;have HB:=zd b0;clear hbox b0
 rcases hk with hk|hk
 ·have e1:decide (k>=0)=false:=by simp;omega
  go_quiet (fail)
  go_wp2;go_ret;exact⟨rfl,HB.out.os,HB.out.tape,HB.out.output,HB.out.size,HB.out.block⟩
 ·have e1:decide (k>=0)=true:=by simp;omega
  have e2:decide (k<5)=false:=by simp;omega
  go_quiet (fail)
  go_wp2;go_ret;exact⟨rfl,HB.out.os,HB.out.tape,HB.out.output,HB.out.size,HB.out.block⟩
theorem xzmf (k:Int)(m:Nat->Bool)(A:Option Addr)(n c:Nat)(lo hi:Int)(w:World):
 Calls Try.prog 41 #[reV k m A n c lo hi] w fun e w'=>e=.returned (.bool (okNode k m n lo hi))/\Below w.heap.size w w':=by
 rw [<-xznw];unfold nodeMayB
 by_cases h0:k=0
 ·subst h0
  exact may_in0 m A n c lo hi w
 rw [if_neg h0]
 by_cases h1:k=1
 ·subst h1
  exact may_in1 m A n c lo hi w
 rw [if_neg h1]
 by_cases h2:k=2
 ·subst h2
  rw [if_pos (Or.inl rfl)];exact may_in2 m A n c lo hi w
 by_cases h3:k=3
 ·subst h3
  rw [if_pos (Or.inr rfl)];exact may_in3 m A n c lo hi w
 rw [if_neg (by omega)]
 by_cases h4:k=4
 ·subst h4
  exact may_in4 m A n c lo hi w
 rw [if_neg h4];exact may_out k m A n c lo hi w (by omega)
end
section
open Go.RowKit
def Tree.may (T:Tree):Bool:=decide (wrap64 (T.nodes:Int)<=300)&&(decide (T.deepW<=30)&&T.ok)
theorem xznx (x:Int):IntKind.i64.wrap x=wrap64 x:=by unfold wrap64;exact IntKind.wrap_i64 x
set_option maxHeartbeats 1000000 in
theorem xzfv (T:Tree)(v:Value)(w:World)(hat:T.At w v):Calls Try.prog 7 #[v] w fun e w'=>e=.returned (.bool T.may)/\Below w.heap.size w w':=by
 have H1:=zd (fun W (h:T.At W v)=>xzfs T v W h);have H2:=zd (fun W (h:T.At W v)=>xzmb T v W h);have H3:=zd (fun W (h:T.At W v)=>xzmc T v W h);simp only [xznx]at H1;unfold Tree.may
 cases T with
 |node k m l lo hi=>
 have HAT:=zd hat;obtain⟨A,c,rfl,_,_⟩:=hat.open;generalize wrap64 ((Tree.node k m l lo hi).nodes:Int)=n at*;generalize(Tree.node k m l lo hi).deepW=d at*;generalize(Tree.node k m l lo hi).ok=q at*;clear hat;unfold reV reL at*
 have HA1:∀ u,Below w.heap.size w u->Tree.At u (.node k m l lo hi) (.agg (reL k m A l.length c lo hi).toArray):=fun u hb=>HAT.out.step hb
 unfold reL at HA1;have HAA:=zd HA1;clear HA1 HAT
 by_cases h1:n<=300
 ·have e1:decide (n<=300)=true:=by simp [h1]
  by_cases h2:d<=30
  ·have e2:decide (d<=30)=true:=by simp [h2]
   rw [e1,e2,Bool.true_and,Bool.true_and]
   go_enter Try.func7,Try.ntmps7
   go_wp2_with fail
   have hB0:Below w.heap.size w (w.alloc (.cells (reL k m A l.length c lo hi).toArray 39)):=(Below.refl _ _).alloc (Nat.le_refl _) _;have hX0:=BlkIs.new w 39 (reL k m A l.length c lo hi).toArray;unfold reL at hB0 hX0;refine(H1.out _ (HAA.out _ hB0)).mono ?_;rintro e w1 ⟨rfl,hb1⟩;have HB1:=zd (hB0.trans (hb1.mono hB0.size));have HX1:=hX0.step hb1;obtain⟨c0,c1,c2,c3,c4,c5,c6,c7⟩:=HX1.eight;have HXX:=zd HX1;clear hb1 hB0 hX0 HX1
   go_wp2_with fail
   refine(H2.out _ (HAA.out _ HB1.out)).mono ?_;rintro e w2 ⟨rfl,hb2⟩;have HB2:=zd (HB1.out.trans (hb2.mono HB1.out.size));have HX2:=HXX.out.step hb2;clear c0 c1 c2 c3 c4 c5 c6 c7;obtain⟨c0,c1,c2,c3,c4,c5,c6,c7⟩:=HX2.eight;clear hb2 HX2
   go_wp2_with fail
   refine(H3.out _ (HAA.out _ HB2.out)).mono ?_;rintro e w3 ⟨rfl,hb3⟩;have HB3:=zd (HB2.out.trans (hb3.mono HB2.out.size));clear hb3;go_wp2;go_ret;exact⟨rfl,HB3.out⟩
  ·have e2:decide (d<=30)=false:=by simp;omega
   rw [e1,e2,Bool.true_and,Bool.false_and]
   go_enter Try.func7,Try.ntmps7
   go_wp2_with fail
   have hB0:Below w.heap.size w (w.alloc (.cells (reL k m A l.length c lo hi).toArray 39)):=(Below.refl _ _).alloc (Nat.le_refl _) _;have hX0:=BlkIs.new w 39 (reL k m A l.length c lo hi).toArray;unfold reL at hB0 hX0;refine(H1.out _ (HAA.out _ hB0)).mono ?_;rintro e w1 ⟨rfl,hb1⟩;have HB1:=zd (hB0.trans (hb1.mono hB0.size));have HX1:=hX0.step hb1;obtain⟨c0,c1,c2,c3,c4,c5,c6,c7⟩:=HX1.eight;clear hb1 hB0 hX0 HX1
   go_wp2_with fail
   refine(H2.out _ (HAA.out _ HB1.out)).mono ?_;rintro e w2 ⟨rfl,hb2⟩;have HB2:=zd (HB1.out.trans (hb2.mono HB1.out.size));clear hb2;go_wp2;go_ret;exact⟨rfl,HB2.out⟩
 ·have e1:decide (n<=300)=false:=by simp;omega
  rw [e1,Bool.false_and]
  go_enter Try.func7,Try.ntmps7
  go_wp2_with fail
  have hB0:Below w.heap.size w (w.alloc (.cells (reL k m A l.length c lo hi).toArray 39)):=(Below.refl _ _).alloc (Nat.le_refl _) _;unfold reL at hB0;refine(H1.out _ (HAA.out _ hB0)).mono ?_;rintro e w1 ⟨rfl,hb1⟩;have HB1:=zd (hB0.trans (hb1.mono hB0.size));clear hb1 hB0;go_wp2;go_ret;exact⟨rfl,HB1.out⟩
mutual
def Tree.same:Tree->Tree->Bool
 | .node k m l lo hi,.node k' m' l' lo' hi'=>(k==k'&&(setEq m m'&&(lo==lo'&&(hi==hi'&&l.length==l'.length))))&&sameL l l'
def sameL:List Tree->List Tree->Bool
 |[],_=>true
 |_::_,[]=>true
 |t::r,t'::r'=>t.same t'&&sameL r r'
end
end
section
open Go.RowKit
def nodesS:List Row->Nat
 |[]=>0
 |r::st=>nodesL r.1+nodesS st
theorem xzgy (t:Tree)(s:List Tree)(b o b' o' o2:Nat)(st:List Row):nodesS ((t::s,b,o)::st)=nodesS ((t.sub,b',o')::(s,b,o2)::st)+1:=by
 cases t with
 |node k m l lo hi=>simp only [nodesS,nodesL,Tree.nodes,Tree.sub];omega
attribute [local go_sem] Oper.semAt_some
theorem xzrj {w0 W:World}{g:Nat}{t:TypeId}{cs:Array Value}(hb:BlkIs W g t cs)(hg:w0.heap.size<=g)(h1:t≠39)(i:Nat)(v:Value):KeepsTrees w0 W (W.setCell ⟨g,i,none⟩ v):=by
 refine⟨(Below.refl _ W).setCell (p:=⟨g,i,none⟩) hg v,fun k c hk=>(Below.heap_setCell W ⟨g,i,none⟩ v k (fun e=>?_)).trans hk⟩
 dsimp only at e
 subst e;have:=hk.symm.trans (show W.heap[k]? =some (.cells cs t (0,0))from hb)
 injection this with this
 injection this with _ e
 exact h1 e.symm
theorem xzie {W:World}{g:Nat}{t:TypeId}{cs:Array Value}(hb:BlkIs W g t cs)(h1:t≠22)(i:Nat)(v:Value):KeepsRows W (W.setCell ⟨g,i,none⟩ v):=by
 refine⟨(KeepsOthers.setCell W _ v).size,fun k c hk=>(Below.heap_setCell W ⟨g,i,none⟩ v k (fun e=>?_)).trans hk⟩
 dsimp only at e
 subst e;have:=hk.symm.trans (show W.heap[k]? =some (.cells cs t (0,0))from hb)
 injection this with this
 injection this with _ e
 exact h1 e.symm
def deepS:List Row->Nat
 |[]=>0
 |r::st=>max (if r.1=[]then 0 else st.length+deepL r.1) (deepS st)
theorem xzny (t:Tree)(s:List Tree)(b o b' o' o2:Nat)(st:List Row):max (st.length+1) (deepS ((t.sub,b',o')::(s,b,o2)::st))=deepS ((t::s,b,o)::st):=by
 cases t with
 |node k m l lo hi=>
  simp only [deepS,deepL,Tree.deepN,Tree.sub,List.length_cons]
  cases l with
  |nil=>cases s<;>simp [deepL]<;>omega
  |cons a l=>cases s<;>simp [deepL]<;>omega
theorem xznz (t:Tree)(s:List Tree)(b o:Nat)(st:List Row):st.length+1<=deepS ((t::s,b,o)::st):=by
 cases t with
 |node k m l lo hi=>simp [deepS,deepL,Tree.deepN];omega
end
end Go.Proofs.Ythoaaginadjaoaa
