/-
 WHETHER A NODE MAY BE, BY PACKAGE rx: the forms of the five kinds, the array of them, may: contracts. No condition.
-/
import Derived.Deep.RegionHeld3
import Derived.BigQuiet
import Derived.Test.YtgbljnnmhmlifaaGreatDoorQG04
import Derived.Test.YtgbljnnmhmlifaaGreatDoorQG03
import Derived.Test.YtgbljnnmhmlifaaGreatDoorQG07
namespace Go.Proofs.YtgbljnnmhmlifaaGreatDoor
section
open Go.RowKit
def byteMayB (n:Nat)(lo hi:Int):Bool:=decide (n=0)&&(decide (lo=0)&&decide (hi=0))
def emptyMayB (m:Nat->Bool)(n:Nat)(lo hi:Int):Bool:=setEq m (fun _=>false)&&byteMayB n lo hi
def rowMayB (m:Nat->Bool)(n:Nat)(lo hi:Int):Bool:=setEq m (fun _=>false)&&(decide (2<=n)&&(decide (lo=0)&&decide (hi=0)))
def repMayB (m:Nat->Bool)(n:Nat)(lo hi:Int):Bool:=setEq m (fun _=>false)&&(decide (n=1)&&(decide (0<=lo)&&(decide (lo<=64)&&(decide (hi= -1)||(decide (lo<=hi)&&decide (hi<=64))))))
set_option maxHeartbeats 1000000 in
theorem xzjo (k:Int)(m:Nat->Bool)(A:Option Addr)(n c:Nat)(lo hi:Int)(w:World):
 Calls Tryz.prog 100 #[reV k m A n c lo hi] w fun e w'=>e=.returned (.bool (byteMayB n lo hi))/\Below w.heap.size w w':=by
 unfold reV reL byteMayB;have hbox:=BlkIs.new w 104 (reL k m A n c lo hi).toArray;unfold reL at hbox;obtain⟨c0,c1,c2,c3,c4,c5,c6,c7⟩:=hbox.eight;clear hbox;have b0:Below w.heap.size w (w.alloc (.cells #[.int .i64 k,.int .u64 (wd m 0:Nat),.int .u64 (wd m 1:Nat),.int .u64 (wd m 2:Nat),.int .u64 (wd m 3:Nat),.slice A n c,.int .i64 lo,.int .i64 hi] 104)):=(Below.refl _ _).alloc (Nat.le_refl _) _;have HB:=zd b0;clear b0
 by_cases h1:n=0
 ·subst h1
  by_cases h2:lo=0
  ·subst h2
   by_cases h3:hi=0
   ·subst h3
    go_enter Tryz.func100,Tryz.ntmps100
    go_wp2;go_ret;exact⟨rfl,HB.out⟩
   ·have e3:(hi==0)=false:=by simp [h3]
    have d3:decide (hi=0)=false:=by simp [h3]
    rw [d3]
    go_enter Tryz.func100,Tryz.ntmps100
    go_wp2;go_ret;exact⟨rfl,HB.out⟩
  ·have e2:(lo==0)=false:=by simp [h2]
   have d2:decide (lo=0)=false:=by simp [h2]
   rw [d2]
   go_enter Tryz.func100,Tryz.ntmps100
   go_wp2;go_ret;exact⟨rfl,HB.out⟩
 ·have e1:((n:Int)==0)=false:=by simp;omega
  have d1:decide (n=0)=false:=by simp [h1]
  rw [d1]
  go_enter Tryz.func100,Tryz.ntmps100
  go_wp2;go_ret;exact⟨rfl,HB.out⟩
set_option maxHeartbeats 1000000 in
theorem xzoh (k:Int)(m:Nat->Bool)(A:Option Addr)(n c:Nat)(lo hi:Int)(w:World):
 Calls Tryz.prog 99 #[reV k m A n c lo hi] w fun e w'=>e=.returned (.bool (emptyMayB m n lo hi))/\Below w.heap.size w w':=by
 have hcall:=fun u=>xzjo k m A n c lo hi u
 have hne:=xzgp m (fun _=>false);rw [xzcy]at hne;unfold setV at hne;unfold reV reL emptyMayB at*;generalize byteMayB n lo hi=q at*;have hbox:=BlkIs.new w 104 (reL k m A n c lo hi).toArray;unfold reL at hbox;obtain⟨c0,c1,c2,c3,c4,c5,c6,c7⟩:=hbox.eight;clear hbox;have b0:Below w.heap.size w (w.alloc (.cells #[.int .i64 k,.int .u64 (wd m 0:Nat),.int .u64 (wd m 1:Nat),.int .u64 (wd m 2:Nat),.int .u64 (wd m 3:Nat),.slice A n c,.int .i64 lo,.int .i64 hi] 104)):=(Below.refl _ _).alloc (Nat.le_refl _) _;have HB:=zd b0;have HC:=zd hcall;clear b0 hcall;generalize hs:setEq m (fun _=>false)=y at*
 cases y
 ·go_enter Tryz.func99,Tryz.ntmps99
  go_wp2;go_ret;exact⟨rfl,HB.out⟩
 ·rw [Bool.true_and]
  go_enter Tryz.func99,Tryz.ntmps99
  go_wp2_with fail
  refine(HC.out _).mono ?_;rintro e w1 ⟨rfl,hb1⟩;have HB1:=zd (HB.out.trans (hb1.mono HB.out.size));clear hb1;go_wp2;go_ret;exact⟨rfl,HB1.out⟩
set_option maxHeartbeats 2000000 in
theorem xzly (k:Int)(m:Nat->Bool)(A:Option Addr)(n c:Nat)(lo hi:Int)(w:World):
 Calls Tryz.prog 101 #[reV k m A n c lo hi] w fun e w'=>e=.returned (.bool (rowMayB m n lo hi))/\Below w.heap.size w w':=by
 have hne:=xzgp m (fun _=>false);rw [xzcy]at hne;unfold setV at hne;unfold reV reL;have hbox:=BlkIs.new w 104 (reL k m A n c lo hi).toArray;unfold reL at hbox;obtain⟨c0,c1,c2,c3,c4,c5,c6,c7⟩:=hbox.eight;clear hbox;have b0:Below w.heap.size w (w.alloc (.cells #[.int .i64 k,.int .u64 (wd m 0:Nat),.int .u64 (wd m 1:Nat),.int .u64 (wd m 2:Nat),.int .u64 (wd m 3:Nat),.slice A n c,.int .i64 lo,.int .i64 hi] 104)):=(Below.refl _ _).alloc (Nat.le_refl _) _;have HB:=zd b0;clear b0;obtain⟨R,hR⟩:∃ R,rowMayB m n lo hi=R:=⟨_,rfl⟩;rw [hR];unfold rowMayB at hR;have HR:=zd hR;clear hR;generalize hs:setEq m (fun _=>false)=y at*
 go_enter Tryz.func101,Tryz.ntmps101
 go_wp2
 all_goals (
  go_ret;refine⟨?_,(Below.refl _ _).alloc (Nat.le_refl _) _⟩;rw [<-HR.out];refine congrArg (fun b=>Ending.returned (Value.bool b)) ?_;clear HR HB hne
  first|(simp_all;done)|(simp_all;omega)|grind)
set_option maxHeartbeats 4000000 in
theorem xzvb (k:Int)(m:Nat->Bool)(A:Option Addr)(n c:Nat)(lo hi:Int)(w:World):
 Calls Tryz.prog 102 #[reV k m A n c lo hi] w fun e w'=>e=.returned (.bool (repMayB m n lo hi))/\Below w.heap.size w w':=by
 have hne:=xzgp m (fun _=>false);rw [xzcy]at hne;unfold setV at hne;unfold reV reL;have hbox:=BlkIs.new w 104 (reL k m A n c lo hi).toArray;unfold reL at hbox;obtain⟨c0,c1,c2,c3,c4,c5,c6,c7⟩:=hbox.eight;clear hbox;obtain⟨R,hR⟩:∃ R,repMayB m n lo hi=R:=⟨_,rfl⟩;rw [hR];unfold repMayB at hR;have HR:=zd hR;clear hR;generalize hs:setEq m (fun _=>false)=y at*
 go_enter Tryz.func102,Tryz.ntmps102
 go_wp2
 all_goals (
  go_ret;refine⟨?_,(Below.refl _ _).alloc (Nat.le_refl _) _⟩;rw [<-HR.out];refine congrArg (fun b=>Ending.returned (Value.bool b)) ?_;clear HR hne
  first|(simp_all;done)|(simp_all;omega)|grind)
def formsA:Array Value:=#[.func (.func 99) #[] #[],.func (.func 100) #[] #[],.func (.func 101) #[] #[],.func (.func 101) #[] #[],.func (.func 102) #[] #[]]
theorem xzjp {B:Nat}{w0:World}(g:Nat):∀ (vs:List Value) (o:Nat) (w:World),B<=g->Below B w0 w->Below B w0 (w.setCells g o vs)
 |[],_,_,_,h=>h
 |v::r,o,w,hg,h=>by
  rw [World.setCells];exact xzjp g r (o+1) _ hg (h.setCell (p:=⟨g,o,none⟩) hg v)
theorem xzlz:(Tryz.prog.info? 131).map (·.size)=some 5:=by kernel_rfl
theorem formsOne:formsA.all (·.oneCell')=true:=by simp [formsA,Value.oneCell']
theorem xzfi (w:World):Calls Tryz.prog 84 #[] w fun e w'=>e=.returned (.agg formsA)/\Below w.heap.size w w':=by
 have hr:=BlkIs.new w 131 #[Value.nilFunc,Value.nilFunc,Value.nilFunc,Value.nilFunc,Value.nilFunc];have hw:=hr.fill (new:=formsA) rfl;have hB:=xzjp w.heap.size formsA.toList 0 _ (Nat.le_refl _) ((Below.refl w.heap.size w).alloc (Nat.le_refl _) (.cells #[Value.nilFunc,Value.nilFunc,Value.nilFunc,Value.nilFunc,Value.nilFunc] 131));have hl:=run_loadVar_mid (P:=Tryz.prog) _ w.heap.size 0 131 formsA.toList _ hw.range Tryz.underlying131 rfl xzlz;have HB:=zd hB;have HL:=zd hl;have HR:=zd hr;clear hw hB hl hr
 go_enter Tryz.func84,Tryz.ntmps84
 go_wp2_with(first|refine wpList_store_mid rfl 131 (.tmp 0) (.tmp 1) rfl w.heap.size 0 formsA rfl rfl HR.out.there xzlz formsOne ?_)
 exact bodyPost_ret (xzae rfl (by simp [Act.put]) HL.out) rfl ⟨rfl,HB.out⟩
def nodeMayB (k:Int)(m:Nat->Bool)(n:Nat)(lo hi:Int):Bool:=
 if k=0 then emptyMayB m n lo hi else if k=1 then byteMayB n lo hi else if k=2\/k=3 then rowMayB m n lo hi else if k=4 then repMayB m n lo hi else false
theorem xzvc (k:Int)(m:Nat->Bool)(n:Nat)(lo hi:Int):nodeMayB k m n lo hi=okNode k m n lo hi:=by
 unfold nodeMayB okNode emptyMayB byteMayB rowMayB repMayB;generalize setEq m (fun _=>false)=y
 by_cases h0:k=0
 ·subst h0;cases y<;>by_cases e1:n=0<;>by_cases e2:lo=0<;>by_cases e3:hi=0<;>simp [e1,e2,e3]
 by_cases h1:k=1
 ·subst h1;cases y<;>by_cases e1:n=0<;>by_cases e2:lo=0<;>by_cases e3:hi=0<;>simp [e1,e2,e3]
 by_cases h2:k=2\/k=3
 ·have h4:k≠4:=by omega
  cases y<;>by_cases e1:2<=n<;>by_cases e2:lo=0<;>by_cases e3:hi=0<;>simp [h0,h1,h2,h4,e1,e2,e3]
 by_cases h4:k=4
 ·subst h4;cases y
  ·simp
  ·rw [Bool.eq_iff_iff];simp
 simp [h0,h1,h2,h4]
set_option maxRecDepth 100000 in
set_option maxHeartbeats 4000000 in
theorem may_in0 (m:Nat->Bool)(A:Option Addr)(n c:Nat)(lo hi:Int)(w:World):
 Calls Tryz.prog 64 #[reV 0 m A n c lo hi] w fun e w'=>e=.returned (.bool (emptyMayB m n lo hi))/\Below w.heap.size w w':=by
 have hcall:=fun u=>xzoh 0 m A n c lo hi u
 generalize emptyMayB m n lo hi=q at*;unfold reV reL at*;have hbox:=BlkIs.new w 104 (reL 0 m A n c lo hi).toArray;have b0:Below w.heap.size w (w.alloc (.cells (reL 0 m A n c lo hi).toArray 104)):=(Below.refl _ _).alloc (Nat.le_refl _) _;unfold reL at hbox b0
 have hix:∀ u,(Instr.index 131 (.agg formsA) (.int .i64 0)).run Tryz.prog u=.ok (.func (.func 99) #[] #[]) u:=fun u=>by kernel_rfl
 go_enter Tryz.func64,Tryz.ntmps64
 go_wp2;generalize w.alloc (.cells #[.int .i64 0,.int .u64 (wd m 0:Nat),.int .u64 (wd m 1:Nat),.int .u64 (wd m 2:Nat),.int .u64 (wd m 3:Nat),.slice A n c,.int .i64 lo,.int .i64 hi] 104)=w2 at*;obtain⟨c0,c1,c2,c3,c4,c5,c6,c7⟩:=hbox.eight;have HX:=zd hbox;have HB:=zd b0;have HC:=zd hcall;clear hbox b0 hcall
 go_region_held3 (fun w'=>Below w2.heap.size w2 w'/\w'.cell? ⟨w.heap.size,0,none⟩=some (.int .i64 0)/\w'.cell? ⟨w.heap.size,1,none⟩=some (.int .u64 (wd m 0:Nat))/\w'.cell? ⟨w.heap.size,2,none⟩=some (.int .u64 (wd m 1:Nat))/\
  w'.cell? ⟨w.heap.size,3,none⟩=some (.int .u64 (wd m 2:Nat))/\w'.cell? ⟨w.heap.size,4,none⟩=some (.int .u64 (wd m 3:Nat))/\w'.cell? ⟨w.heap.size,5,none⟩=some (.slice A n c)/\w'.cell? ⟨w.heap.size,6,none⟩=some (.int .i64 lo)/\w'.cell? ⟨w.heap.size,7,none⟩=some (.int .i64 hi))
  ((first
    |(have hb3:=(by assumption:Below w2.heap.size w2 _/\_).1.trans (hb1.mono (by assumption:Below w2.heap.size w2 _/\_).1.size);exact⟨hb3,(HX.out.step hb3).eight⟩)
    |exact⟨(Below.refl _ _).drew,HX.out.eight⟩
    |assumption
    |go_keep))
  ((first
    |(go_at_call 84;go_must(refine(xzfi _).mono ?_);rintro e w1 ⟨rfl,hb1⟩)
    |(go_at_call 99;go_must(refine(HC.out _).mono ?_);rintro e w1 ⟨rfl,hb1⟩)))
 have hS:=(by assumption:Below w2.heap.size w2 w1/\_).1;have HS:=zd (HB.out.trans (hS.mono HB.out.size));clear hS;go_wp2;go_ret;exact⟨rfl,HS.out⟩
set_option maxRecDepth 100000 in
set_option maxHeartbeats 4000000 in
theorem may_in1 (m:Nat->Bool)(A:Option Addr)(n c:Nat)(lo hi:Int)(w:World):
 Calls Tryz.prog 64 #[reV 1 m A n c lo hi] w fun e w'=>e=.returned (.bool (byteMayB n lo hi))/\Below w.heap.size w w':=by
 have hcall:=fun u=>xzjo 1 m A n c lo hi u
 generalize byteMayB n lo hi=q at*;unfold reV reL at*;have hbox:=BlkIs.new w 104 (reL 1 m A n c lo hi).toArray;have b0:Below w.heap.size w (w.alloc (.cells (reL 1 m A n c lo hi).toArray 104)):=(Below.refl _ _).alloc (Nat.le_refl _) _;unfold reL at hbox b0
 have hix:∀ u,(Instr.index 131 (.agg formsA) (.int .i64 1)).run Tryz.prog u=.ok (.func (.func 100) #[] #[]) u:=fun u=>by kernel_rfl
 go_enter Tryz.func64,Tryz.ntmps64
 go_wp2;generalize w.alloc (.cells #[.int .i64 1,.int .u64 (wd m 0:Nat),.int .u64 (wd m 1:Nat),.int .u64 (wd m 2:Nat),.int .u64 (wd m 3:Nat),.slice A n c,.int .i64 lo,.int .i64 hi] 104)=w2 at*;obtain⟨c0,c1,c2,c3,c4,c5,c6,c7⟩:=hbox.eight;have HX:=zd hbox;have HB:=zd b0;have HC:=zd hcall;clear hbox b0 hcall
 go_region_held3 (fun w'=>Below w2.heap.size w2 w'/\w'.cell? ⟨w.heap.size,0,none⟩=some (.int .i64 1)/\w'.cell? ⟨w.heap.size,1,none⟩=some (.int .u64 (wd m 0:Nat))/\w'.cell? ⟨w.heap.size,2,none⟩=some (.int .u64 (wd m 1:Nat))/\
  w'.cell? ⟨w.heap.size,3,none⟩=some (.int .u64 (wd m 2:Nat))/\w'.cell? ⟨w.heap.size,4,none⟩=some (.int .u64 (wd m 3:Nat))/\w'.cell? ⟨w.heap.size,5,none⟩=some (.slice A n c)/\w'.cell? ⟨w.heap.size,6,none⟩=some (.int .i64 lo)/\w'.cell? ⟨w.heap.size,7,none⟩=some (.int .i64 hi))
  ((first
    |(have hb3:=(by assumption:Below w2.heap.size w2 _/\_).1.trans (hb1.mono (by assumption:Below w2.heap.size w2 _/\_).1.size);exact⟨hb3,(HX.out.step hb3).eight⟩)
    |exact⟨(Below.refl _ _).drew,HX.out.eight⟩
    |assumption
    |go_keep))
  ((first
    |(go_at_call 84;go_must(refine(xzfi _).mono ?_);rintro e w1 ⟨rfl,hb1⟩)
    |(go_at_call 100;go_must(refine(HC.out _).mono ?_);rintro e w1 ⟨rfl,hb1⟩)))
 have hS:=(by assumption:Below w2.heap.size w2 w1/\_).1;have HS:=zd (HB.out.trans (hS.mono HB.out.size));clear hS;go_wp2;go_ret;exact⟨rfl,HS.out⟩
set_option maxRecDepth 100000 in
set_option maxHeartbeats 4000000 in
theorem may_in2 (m:Nat->Bool)(A:Option Addr)(n c:Nat)(lo hi:Int)(w:World):
 Calls Tryz.prog 64 #[reV 2 m A n c lo hi] w fun e w'=>e=.returned (.bool (rowMayB m n lo hi))/\Below w.heap.size w w':=by
 have hcall:=fun u=>xzly 2 m A n c lo hi u
 generalize rowMayB m n lo hi=q at*;unfold reV reL at*;have hbox:=BlkIs.new w 104 (reL 2 m A n c lo hi).toArray;have b0:Below w.heap.size w (w.alloc (.cells (reL 2 m A n c lo hi).toArray 104)):=(Below.refl _ _).alloc (Nat.le_refl _) _;unfold reL at hbox b0
 have hix:∀ u,(Instr.index 131 (.agg formsA) (.int .i64 2)).run Tryz.prog u=.ok (.func (.func 101) #[] #[]) u:=fun u=>by kernel_rfl
 go_enter Tryz.func64,Tryz.ntmps64
 go_wp2;generalize w.alloc (.cells #[.int .i64 2,.int .u64 (wd m 0:Nat),.int .u64 (wd m 1:Nat),.int .u64 (wd m 2:Nat),.int .u64 (wd m 3:Nat),.slice A n c,.int .i64 lo,.int .i64 hi] 104)=w2 at*;obtain⟨c0,c1,c2,c3,c4,c5,c6,c7⟩:=hbox.eight;have HX:=zd hbox;have HB:=zd b0;have HC:=zd hcall;clear hbox b0 hcall
 go_region_held3 (fun w'=>Below w2.heap.size w2 w'/\w'.cell? ⟨w.heap.size,0,none⟩=some (.int .i64 2)/\w'.cell? ⟨w.heap.size,1,none⟩=some (.int .u64 (wd m 0:Nat))/\w'.cell? ⟨w.heap.size,2,none⟩=some (.int .u64 (wd m 1:Nat))/\
  w'.cell? ⟨w.heap.size,3,none⟩=some (.int .u64 (wd m 2:Nat))/\w'.cell? ⟨w.heap.size,4,none⟩=some (.int .u64 (wd m 3:Nat))/\w'.cell? ⟨w.heap.size,5,none⟩=some (.slice A n c)/\w'.cell? ⟨w.heap.size,6,none⟩=some (.int .i64 lo)/\w'.cell? ⟨w.heap.size,7,none⟩=some (.int .i64 hi))
  ((first
    |(have hb3:=(by assumption:Below w2.heap.size w2 _/\_).1.trans (hb1.mono (by assumption:Below w2.heap.size w2 _/\_).1.size);exact⟨hb3,(HX.out.step hb3).eight⟩)
    |exact⟨(Below.refl _ _).drew,HX.out.eight⟩
    |assumption
    |go_keep))
  ((first
    |(go_at_call 84;go_must(refine(xzfi _).mono ?_);rintro e w1 ⟨rfl,hb1⟩)
    |(go_at_call 101;go_must(refine(HC.out _).mono ?_);rintro e w1 ⟨rfl,hb1⟩)))
 have hS:=(by assumption:Below w2.heap.size w2 w1/\_).1;have HS:=zd (HB.out.trans (hS.mono HB.out.size));clear hS;go_wp2;go_ret;exact⟨rfl,HS.out⟩
set_option maxRecDepth 100000 in
set_option maxHeartbeats 4000000 in
theorem may_in3 (m:Nat->Bool)(A:Option Addr)(n c:Nat)(lo hi:Int)(w:World):
 Calls Tryz.prog 64 #[reV 3 m A n c lo hi] w fun e w'=>e=.returned (.bool (rowMayB m n lo hi))/\Below w.heap.size w w':=by
 have hcall:=fun u=>xzly 3 m A n c lo hi u
 generalize rowMayB m n lo hi=q at*;unfold reV reL at*;have hbox:=BlkIs.new w 104 (reL 3 m A n c lo hi).toArray;have b0:Below w.heap.size w (w.alloc (.cells (reL 3 m A n c lo hi).toArray 104)):=(Below.refl _ _).alloc (Nat.le_refl _) _;unfold reL at hbox b0
 have hix:∀ u,(Instr.index 131 (.agg formsA) (.int .i64 3)).run Tryz.prog u=.ok (.func (.func 101) #[] #[]) u:=fun u=>by kernel_rfl
 go_enter Tryz.func64,Tryz.ntmps64
 go_wp2;generalize w.alloc (.cells #[.int .i64 3,.int .u64 (wd m 0:Nat),.int .u64 (wd m 1:Nat),.int .u64 (wd m 2:Nat),.int .u64 (wd m 3:Nat),.slice A n c,.int .i64 lo,.int .i64 hi] 104)=w2 at*;obtain⟨c0,c1,c2,c3,c4,c5,c6,c7⟩:=hbox.eight;have HX:=zd hbox;have HB:=zd b0;have HC:=zd hcall;clear hbox b0 hcall
 go_region_held3 (fun w'=>Below w2.heap.size w2 w'/\w'.cell? ⟨w.heap.size,0,none⟩=some (.int .i64 3)/\w'.cell? ⟨w.heap.size,1,none⟩=some (.int .u64 (wd m 0:Nat))/\w'.cell? ⟨w.heap.size,2,none⟩=some (.int .u64 (wd m 1:Nat))/\
  w'.cell? ⟨w.heap.size,3,none⟩=some (.int .u64 (wd m 2:Nat))/\w'.cell? ⟨w.heap.size,4,none⟩=some (.int .u64 (wd m 3:Nat))/\w'.cell? ⟨w.heap.size,5,none⟩=some (.slice A n c)/\w'.cell? ⟨w.heap.size,6,none⟩=some (.int .i64 lo)/\w'.cell? ⟨w.heap.size,7,none⟩=some (.int .i64 hi))
  ((first
    |(have hb3:=(by assumption:Below w2.heap.size w2 _/\_).1.trans (hb1.mono (by assumption:Below w2.heap.size w2 _/\_).1.size);exact⟨hb3,(HX.out.step hb3).eight⟩)
    |exact⟨(Below.refl _ _).drew,HX.out.eight⟩
    |assumption
    |go_keep))
  ((first
    |(go_at_call 84;go_must(refine(xzfi _).mono ?_);rintro e w1 ⟨rfl,hb1⟩)
    |(go_at_call 101;go_must(refine(HC.out _).mono ?_);rintro e w1 ⟨rfl,hb1⟩)))
 have hS:=(by assumption:Below w2.heap.size w2 w1/\_).1;have HS:=zd (HB.out.trans (hS.mono HB.out.size));clear hS;go_wp2;go_ret;exact⟨rfl,HS.out⟩
set_option maxRecDepth 100000 in
set_option maxHeartbeats 4000000 in
theorem may_in4 (m:Nat->Bool)(A:Option Addr)(n c:Nat)(lo hi:Int)(w:World):
 Calls Tryz.prog 64 #[reV 4 m A n c lo hi] w fun e w'=>e=.returned (.bool (repMayB m n lo hi))/\Below w.heap.size w w':=by
 have hcall:=fun u=>xzvb 4 m A n c lo hi u
 generalize repMayB m n lo hi=q at*;unfold reV reL at*;have hbox:=BlkIs.new w 104 (reL 4 m A n c lo hi).toArray;have b0:Below w.heap.size w (w.alloc (.cells (reL 4 m A n c lo hi).toArray 104)):=(Below.refl _ _).alloc (Nat.le_refl _) _;unfold reL at hbox b0
 have hix:∀ u,(Instr.index 131 (.agg formsA) (.int .i64 4)).run Tryz.prog u=.ok (.func (.func 102) #[] #[]) u:=fun u=>by kernel_rfl
 go_enter Tryz.func64,Tryz.ntmps64
 go_wp2;generalize w.alloc (.cells #[.int .i64 4,.int .u64 (wd m 0:Nat),.int .u64 (wd m 1:Nat),.int .u64 (wd m 2:Nat),.int .u64 (wd m 3:Nat),.slice A n c,.int .i64 lo,.int .i64 hi] 104)=w2 at*;obtain⟨c0,c1,c2,c3,c4,c5,c6,c7⟩:=hbox.eight;have HX:=zd hbox;have HB:=zd b0;have HC:=zd hcall;clear hbox b0 hcall
 go_region_held3 (fun w'=>Below w2.heap.size w2 w'/\w'.cell? ⟨w.heap.size,0,none⟩=some (.int .i64 4)/\w'.cell? ⟨w.heap.size,1,none⟩=some (.int .u64 (wd m 0:Nat))/\w'.cell? ⟨w.heap.size,2,none⟩=some (.int .u64 (wd m 1:Nat))/\
  w'.cell? ⟨w.heap.size,3,none⟩=some (.int .u64 (wd m 2:Nat))/\w'.cell? ⟨w.heap.size,4,none⟩=some (.int .u64 (wd m 3:Nat))/\w'.cell? ⟨w.heap.size,5,none⟩=some (.slice A n c)/\w'.cell? ⟨w.heap.size,6,none⟩=some (.int .i64 lo)/\w'.cell? ⟨w.heap.size,7,none⟩=some (.int .i64 hi))
  ((first
    |(have hb3:=(by assumption:Below w2.heap.size w2 _/\_).1.trans (hb1.mono (by assumption:Below w2.heap.size w2 _/\_).1.size);exact⟨hb3,(HX.out.step hb3).eight⟩)
    |exact⟨(Below.refl _ _).drew,HX.out.eight⟩
    |assumption
    |go_keep))
  ((first
    |(go_at_call 84;go_must(refine(xzfi _).mono ?_);rintro e w1 ⟨rfl,hb1⟩)
    |(go_at_call 102;go_must(refine(HC.out _).mono ?_);rintro e w1 ⟨rfl,hb1⟩)))
 have hS:=(by assumption:Below w2.heap.size w2 w1/\_).1;have HS:=zd (HB.out.trans (hS.mono HB.out.size));clear hS;go_wp2;go_ret;exact⟨rfl,HS.out⟩
set_option maxRecDepth 100000 in
set_option maxHeartbeats 2000000 in
theorem may_out (k:Int)(m:Nat->Bool)(A:Option Addr)(n c:Nat)(lo hi:Int)(w:World)(hk:k<0\/5<=k):
 Calls Tryz.prog 64 #[reV k m A n c lo hi] w fun e w'=>e=.returned (.bool false)/\Below w.heap.size w w':=by
 unfold reV reL at*;have hbox:=BlkIs.new w 104 (reL k m A n c lo hi).toArray;have b0:Below w.heap.size w (w.alloc (.cells (reL k m A n c lo hi).toArray 104)):=(Below.refl _ _).alloc (Nat.le_refl _) _;unfold reL at hbox b0
 go_enter Tryz.func64,Tryz.ntmps64
 go_wp2;generalize w.alloc (.cells #[.int .i64 k,.int .u64 (wd m 0:Nat),.int .u64 (wd m 1:Nat),.int .u64 (wd m 2:Nat),.int .u64 (wd m 3:Nat),.slice A n c,.int .i64 lo,.int .i64 hi] 104)=w2 at*;obtain⟨c0,c1,c2,c3,c4,c5,c6,c7⟩:=hbox.eight;have HB:=zd b0;clear hbox b0
 rcases hk with hk|hk
 ·have e1:decide (k>=0)=false:=by simp;omega
  go_quiet (fail)
  go_wp2;go_ret;exact⟨rfl,HB.out.os,HB.out.tape,HB.out.output,HB.out.size,HB.out.block⟩
 ·have e1:decide (k>=0)=true:=by simp;omega
  have e2:decide (k<5)=false:=by simp;omega
  go_quiet (fail)
  go_wp2;go_ret;exact⟨rfl,HB.out.os,HB.out.tape,HB.out.output,HB.out.size,HB.out.block⟩
theorem xzsz (k:Int)(m:Nat->Bool)(A:Option Addr)(n c:Nat)(lo hi:Int)(w:World):
 Calls Tryz.prog 64 #[reV k m A n c lo hi] w fun e w'=>e=.returned (.bool (okNode k m n lo hi))/\Below w.heap.size w w':=by
 rw [<-xzvc];unfold nodeMayB
 by_cases h0:k=0
 ·subst h0
  exact may_in0 m A n c lo hi w
 rw [if_neg h0]
 by_cases h1:k=1
 ·subst h1
  exact may_in1 m A n c lo hi w
 rw [if_neg h1]
 by_cases h2:k=2
 ·subst h2
  rw [if_pos (Or.inl rfl)];exact may_in2 m A n c lo hi w
 by_cases h3:k=3
 ·subst h3
  rw [if_pos (Or.inr rfl)];exact may_in3 m A n c lo hi w
 rw [if_neg (by omega)]
 by_cases h4:k=4
 ·subst h4
  exact may_in4 m A n c lo hi w
 rw [if_neg h4];exact may_out k m A n c lo hi w (by omega)
end
section
open Go.RowKit
def Tree.may (T:Tree):Bool:=decide (wrap64 (T.nodes:Int)<=300)&&(decide (T.deepW<=30)&&T.ok)
theorem xzvd (x:Int):IntKind.i64.wrap x=wrap64 x:=by unfold wrap64;exact IntKind.wrap_i64 x
set_option maxHeartbeats 1000000 in
theorem xzoi (T:Tree)(v:Value)(w:World)(hat:T.At w v):Calls Tryz.prog 35 #[v] w fun e w'=>e=.returned (.bool T.may)/\Below w.heap.size w w':=by
 have H1:=zd (fun W (h:T.At W v)=>xzhn T v W h);have H2:=zd (fun W (h:T.At W v)=>xzsu T v W h);have H3:=zd (fun W (h:T.At W v)=>xzsv T v W h);simp only [xzvd]at H1;unfold Tree.may
 cases T with
 |node k m l lo hi=>
 have HAT:=zd hat;obtain⟨A,c,rfl,_,_⟩:=hat.open;generalize wrap64 ((Tree.node k m l lo hi).nodes:Int)=n at*;generalize(Tree.node k m l lo hi).deepW=d at*;generalize(Tree.node k m l lo hi).ok=q at*;clear hat;unfold reV reL at*
 have HA1:∀ u,Below w.heap.size w u->Tree.At u (.node k m l lo hi) (.agg (reL k m A l.length c lo hi).toArray):=fun u hb=>HAT.out.step hb
 unfold reL at HA1;have HAA:=zd HA1;clear HA1 HAT
 by_cases h1:n<=300
 ·have e1:decide (n<=300)=true:=by simp [h1]
  by_cases h2:d<=30
  ·have e2:decide (d<=30)=true:=by simp [h2]
   rw [e1,e2,Bool.true_and,Bool.true_and]
   go_enter Tryz.func35,Tryz.ntmps35
   go_wp2_with fail
   have hB0:Below w.heap.size w (w.alloc (.cells (reL k m A l.length c lo hi).toArray 49)):=(Below.refl _ _).alloc (Nat.le_refl _) _;have hX0:=BlkIs.new w 49 (reL k m A l.length c lo hi).toArray;unfold reL at hB0 hX0;refine(H1.out _ (HAA.out _ hB0)).mono ?_;rintro e w1 ⟨rfl,hb1⟩;have HB1:=zd (hB0.trans (hb1.mono hB0.size));have HX1:=hX0.step hb1;obtain⟨c0,c1,c2,c3,c4,c5,c6,c7⟩:=HX1.eight;have HXX:=zd HX1;clear hb1 hB0 hX0 HX1
   go_wp2_with fail
   refine(H2.out _ (HAA.out _ HB1.out)).mono ?_;rintro e w2 ⟨rfl,hb2⟩;have HB2:=zd (HB1.out.trans (hb2.mono HB1.out.size));have HX2:=HXX.out.step hb2;clear c0 c1 c2 c3 c4 c5 c6 c7;obtain⟨c0,c1,c2,c3,c4,c5,c6,c7⟩:=HX2.eight;clear hb2 HX2
   go_wp2_with fail
   refine(H3.out _ (HAA.out _ HB2.out)).mono ?_;rintro e w3 ⟨rfl,hb3⟩;have HB3:=zd (HB2.out.trans (hb3.mono HB2.out.size));clear hb3;go_wp2;go_ret;exact⟨rfl,HB3.out⟩
  ·have e2:decide (d<=30)=false:=by simp;omega
   rw [e1,e2,Bool.true_and,Bool.false_and]
   go_enter Tryz.func35,Tryz.ntmps35
   go_wp2_with fail
   have hB0:Below w.heap.size w (w.alloc (.cells (reL k m A l.length c lo hi).toArray 49)):=(Below.refl _ _).alloc (Nat.le_refl _) _;have hX0:=BlkIs.new w 49 (reL k m A l.length c lo hi).toArray;unfold reL at hB0 hX0;refine(H1.out _ (HAA.out _ hB0)).mono ?_;rintro e w1 ⟨rfl,hb1⟩;have HB1:=zd (hB0.trans (hb1.mono hB0.size));have HX1:=hX0.step hb1;obtain⟨c0,c1,c2,c3,c4,c5,c6,c7⟩:=HX1.eight;clear hb1 hB0 hX0 HX1
   go_wp2_with fail
   refine(H2.out _ (HAA.out _ HB1.out)).mono ?_;rintro e w2 ⟨rfl,hb2⟩;have HB2:=zd (HB1.out.trans (hb2.mono HB1.out.size));clear hb2;go_wp2;go_ret;exact⟨rfl,HB2.out⟩
 ·have e1:decide (n<=300)=false:=by simp;omega
  rw [e1,Bool.false_and]
  go_enter Tryz.func35,Tryz.ntmps35
  go_wp2_with fail
  have hB0:Below w.heap.size w (w.alloc (.cells (reL k m A l.length c lo hi).toArray 49)):=(Below.refl _ _).alloc (Nat.le_refl _) _;unfold reL at hB0;refine(H1.out _ (HAA.out _ hB0)).mono ?_;rintro e w1 ⟨rfl,hb1⟩;have HB1:=zd (hB0.trans (hb1.mono hB0.size));clear hb1 hB0;go_wp2;go_ret;exact⟨rfl,HB1.out⟩
mutual
def Tree.same:Tree->Tree->Bool
 | .node k m l lo hi,.node k' m' l' lo' hi'=>(k==k'&&(setEq m m'&&(lo==lo'&&(hi==hi'&&l.length==l'.length))))&&sameL l l'
def sameL:List Tree->List Tree->Bool
 |[],_=>true
 |_::_,[]=>true
 |t::r,t'::r'=>t.same t'&&sameL r r'
end
end
section
open Go.RowKit
def nodesS:List Row->Nat
 |[]=>0
 |r::st=>nodesL r.1+nodesS st
theorem xzjq (t:Tree)(s:List Tree)(b o b' o' o2:Nat)(st:List Row):nodesS ((t::s,b,o)::st)=nodesS ((t.sub,b',o')::(s,b,o2)::st)+1:=by
 cases t with
 |node k m l lo hi=>simp only [nodesS,nodesL,Tree.nodes,Tree.sub];omega
attribute [local go_sem] Oper.semAt_some
theorem yzam {w0 W:World}{g:Nat}{t:TypeId}{cs:Array Value}(hb:BlkIs W g t cs)(hg:w0.heap.size<=g)(h1:t≠49)(i:Nat)(v:Value):KeepsTrees w0 W (W.setCell ⟨g,i,none⟩ v):=by
 refine⟨(Below.refl _ W).setCell (p:=⟨g,i,none⟩) hg v,fun k c hk=>(Below.heap_setCell W ⟨g,i,none⟩ v k (fun e=>?_)).trans hk⟩
 dsimp only at e
 subst e;have:=hk.symm.trans (show W.heap[k]? =some (.cells cs t (0,0))from hb)
 injection this with this
 injection this with _ e
 exact h1 e.symm
theorem xzma {W:World}{g:Nat}{t:TypeId}{cs:Array Value}(hb:BlkIs W g t cs)(h1:t≠22)(i:Nat)(v:Value):KeepsRows W (W.setCell ⟨g,i,none⟩ v):=by
 refine⟨(KeepsOthers.setCell W _ v).size,fun k c hk=>(Below.heap_setCell W ⟨g,i,none⟩ v k (fun e=>?_)).trans hk⟩
 dsimp only at e
 subst e;have:=hk.symm.trans (show W.heap[k]? =some (.cells cs t (0,0))from hb)
 injection this with this
 injection this with _ e
 exact h1 e.symm
def deepS:List Row->Nat
 |[]=>0
 |r::st=>max (if r.1=[]then 0 else st.length+deepL r.1) (deepS st)
theorem xzve (t:Tree)(s:List Tree)(b o b' o' o2:Nat)(st:List Row):max (st.length+1) (deepS ((t.sub,b',o')::(s,b,o2)::st))=deepS ((t::s,b,o)::st):=by
 cases t with
 |node k m l lo hi=>
  simp only [deepS,deepL,Tree.deepN,Tree.sub,List.length_cons]
  cases l with
  |nil=>cases s<;>simp [deepL]<;>omega
  |cons a l=>cases s<;>simp [deepL]<;>omega
theorem xzvf (t:Tree)(s:List Tree)(b o:Nat)(st:List Row):st.length+1<=deepS ((t::s,b,o)::st):=by
 cases t with
 |node k m l lo hi=>simp [deepS,deepL,Tree.deepN];omega
end
section
open Go.RowKit
attribute [local go_sem] Oper.semAt_some
def okS:List Row->Bool
 |[]=>true
 |r::st=>allOk r.1&&okS st
theorem xzoj (t:Tree)(s:List Tree)(b o b' o' o2:Nat)(st:List Row):okS ((t::s,b,o)::st)=(okNode t.kind t.set t.sub.length t.lo t.hi&&okS ((t.sub,b',o')::(s,b,o2)::st)):=by
 cases t with
 |node k m l lo hi=>
  simp only [okS,allOk,Tree.ok,Tree.sub,Tree.kind,Tree.set,Tree.lo,Tree.hi]
  cases okNode k m l.length lo hi<;>cases allOk l<;>cases allOk s<;>cases okS st<;>rfl
theorem xzvg (x:Nat)(h:x<=300):wrap64 ((x:Int)+1)=(x:Int)+1/\IntKind.i64.wrap ((x:Int)+1)=(x:Int)+1:=by
 constructor
 ·unfold wrap64;omega
 ·rw [IntKind.wrap_i64];omega
def Tree.mayN (T:Tree):Bool:=decide (T.nodes<=300)&&(decide (T.deepN<=30)&&T.ok)
def MayJ (w:World)(T:Tree)(st:List Row)(W:World):Prop:=RowsIn w st W/\∃ x:Nat,x+nodesS st=T.nodes/\x<=300/\(decide (deepS st<=30)&&okS st)=(decide (T.deepN<=30)&&T.ok)/\
 BlkIs W (w.heap.size+1+1+1) 3 #[.int .i64 (x:Nat)]/\BlkIs W (w.heap.size+1) 4 #[.bool false]
def MayX (w:World)(T:Tree)(W:World):Prop:=Below w.heap.size w W/\T.mayN=false/\BlkIs W (w.heap.size+1) 4 #[.bool false]
theorem xzhq {W W':World}(h:Below W.heap.size W W'):KeepsOthers W W':=⟨h.size,fun k _ hk _=>(h.block k (Array.getElem?_eq_some_iff.1 hk).1).trans hk⟩
theorem xzvh {W W':World}(h:Below W.heap.size W W'):KeepsRows W W':=⟨h.size,fun k _ hk=>(h.block k (Array.getElem?_eq_some_iff.1 hk).1).trans hk⟩
theorem xzqj {w:World}{g:Nat}{t:TypeId}{x:Bool}(h:BlkIs w g t #[.bool x]):(loadVar 4 ⟨g,0,none⟩).run Tryz.prog w=.ok (.bool x) w:=by
 have c:=h.cell 0
 simp at c
 go_simp
theorem xzmb {W:World}{l:Nat}{o:Obj}(o':Obj){g:Nat}{t:TypeId}{cs:Array Value}(h:BlkIs W g t cs)(hl:W.heap[l]? =some o)(ho:o.isCells=false):BlkIs (W.putObj l o') g t cs:=
 (World.putObj_heap_other (fun e=>by subst e;unfold BlkIs at h;rw [h]at hl;cases hl;cases ho)).trans h
theorem xzta {w:World}{T:Tree}{cs:List Value}(hT:T.At w (.agg cs.toArray))(h8:cs.length=8):
 RowsIn w [([T],w.heap.size+1+1,0)] ((((w.alloc (.cells cs.toArray 49)).alloc (.cells #[.bool false] 4)).alloc (.cells cs.toArray 49)).alloc (.cells #[.int .i64 0] 3))/\
  BlkIs ((((w.alloc (.cells cs.toArray 49)).alloc (.cells #[.bool false] 4)).alloc (.cells cs.toArray 49)).alloc (.cells #[.int .i64 0] 3)) (w.heap.size+1+1+1) 3 #[.int .i64 0]/\
  BlkIs ((((w.alloc (.cells cs.toArray 49)).alloc (.cells #[.bool false] 4)).alloc (.cells cs.toArray 49)).alloc (.cells #[.int .i64 0] 3)) (w.heap.size+1) 4 #[.bool false]/\
  ((((w.alloc (.cells cs.toArray 49)).alloc (.cells #[.bool false] 4)).alloc (.cells cs.toArray 49)).alloc (.cells #[.int .i64 0] 3)).heap.size=w.heap.size+4:=by
 have h0:=((BlkIs.new (w.alloc (.cells cs.toArray 49)) 4 #[.bool false]).alloc (.cells cs.toArray 49)).alloc (.cells #[.int .i64 0] 3);have h1:=(BlkIs.new ((w.alloc (.cells cs.toArray 49)).alloc (.cells #[.bool false] 4)) 49 cs.toArray).alloc (.cells #[.int .i64 0] 3);have h2:=BlkIs.new (((w.alloc (.cells cs.toArray 49)).alloc (.cells #[.bool false] 4)).alloc (.cells cs.toArray 49)) 3 #[.int .i64 0];simp only [World.size_alloc]at h0 h1 h2;refine⟨RowsIn.start hT h8 (((((Below.refl _ _).alloc (Nat.le_refl _) _).alloc (by simp) _).alloc (by simp;omega) _).alloc (by simp;omega) _) h1,h2,h0,by simp⟩
set_option maxRecDepth 100000 in
set_option maxHeartbeats 2000000 in
theorem may_any (T:Tree)(v:Value)(w:World)(hat:T.At w v)(hd:T.deepN<=1099511627776):
 Calls Tryz.prog 36 #[v] w fun e w'=>e=.returned (.bool T.mayN)/\Below w.heap.size w w':=by
 cases T with
 |node k m l lo hi=>
 obtain⟨A,c,rfl,_,_⟩:=hat.open;have HAT:=zd hat;clear hat;unfold reV reL at*;refine(callsIn_wide (n:=3)).1 ?_;refine callsIn_of_wp_marks Tryz.func36 rfl trivial ?_ rfl;simp only [Tryz.ntmps36,List.size_toArray,List.length_cons,List.length_nil,Nat.reduceAdd,Nat.reduceSub,Array.replicate_succ,Array.replicate_zero,List.push_toArray,List.append_toArray,List.nil_append,List.cons_append];refine wpIn_wide.2 ?_;go_wp2;have hs:=xzta (cs:=reL k m A l.length c lo hi) (by unfold reL;exact HAT.out) rfl;unfold reL at hs;generalize(((w.alloc _).alloc _).alloc _).alloc _=W2 at*;have HS:=zd hs;have hsz:=hs.2.2.2;clear hs;refine(wpIn_wide (n:=3)).1 ?_
 refine xzsy 3 (by omega) 1099511627776 (Nat.le_refl _) (.slice (some ⟨w.heap.size+1+1,0,none⟩) 1 1) rfl (MayJ w (.node k m l lo hi)) (fun _=>MayX w (.node k m l lo hi)) ?hJ ?hIx ?pop
  [Tree.node k m l lo hi] (w.heap.size+1+1) 0 ⟨_,_,rfl,Nat.le_refl _,by omega,fun _=>rfl⟩ (by simpa [deepL]using hd) ?start
  (fun b o d=>{tmps:=#[.agg #[.int .i64 k,.int .u64 (wd m 0:Nat),.int .u64 (wd m 1:Nat),.int .u64 (wd m 2:Nat),.int .u64 (wd m 3:Nat),.slice A l.length c,.int .i64 lo,.int .i64 hi],.pointer (some ⟨w.heap.size,0,none⟩),.pointer (some ⟨w.heap.size+1,0,none⟩),
   .slice (some ⟨w.heap.size+1+1,0,none⟩) 1 1,.pointer (some ⟨w.heap.size+1+1+1,0,none⟩),.pointer (some ⟨b,o,none⟩),.int .i64 ((d:Int)+1),.agg #[.int .i64 k,.int .u64 (wd m 0:Nat),.int .u64 (wd m 1:Nat),.int .u64 (wd m 2:Nat),.int .u64 (wd m 3:Nat),.slice A l.length c,.int .i64 lo,.int .i64 hi],
   .slice (some ⟨w.heap.size+1+1,0,none⟩) 1 1,.slice (some ⟨w.heap.size+1+1,0,none⟩) 1 1,.func (.func 63) #[.slice (some ⟨w.heap.size+1+1,0,none⟩) 1 1] #[],.pointer (some ⟨b,o,none⟩),.int .i64 ((d:Int)+1),undef,undef,undef,undef,undef,undef,undef,undef,undef,undef,undef,undef,undef,undef,undef],defers:=[]})
  ?assign ?body ?done ?stop
 case hJ=>
  rintro st X Y ⟨h1,x,h2,h3,h4,h5,h6⟩ hl;exact⟨h1.loose hl (by omega),x,h2,h3,h4,hl.blk h5 (by decide),hl.blk h6 (by decide)⟩
 case hIx=>
  rintro c X Y ⟨h1,h2,h3⟩ hl;exact⟨hl.below h1 (by omega) h1.size,h2,hl.blk h3 (by decide)⟩
 case pop=>
  rintro b o st X ⟨h1,x,h2,h3,h4,h5,h6⟩;exact⟨h1.pop,x,by simpa [nodesS,nodesL]using h2,h3,by rw [<-h4];simp [deepS,okS,allOk],h5,h6⟩
 case start=>exact⟨HS.out.1,0,by simp [nodesS,nodesL],by omega,by simp [deepS,deepL,okS,allOk],HS.out.2.1,HS.out.2.2.1⟩
 case assign=>
  intro l b o d W K hK
  gi_wp2
  exact hK
 case body=>
  rintro l' t s b o st W hsz' hlen ⟨h1,x,h2,h3,h4,h5,h6⟩;have c0:=h5.cell 0;have f0:=h5.frozen 0;simp only [zq]at c0;obtain⟨hx1,hx2⟩:=xzvg x h3;have hK1:=yzam (w0:=w) h5 (by omega) (by decide) 0 (.int .i64 ((x:Int)+1));have hR1:=h1.keep hK1;obtain⟨A1,cc,g1,g2,g3,g4,g5⟩:=hR1.head
  have h5':BlkIs (W.setCell ⟨w.heap.size+1+1+1,0,none⟩ (.int .i64 ((x:Int)+1))) (w.heap.size+1+1+1) 3 #[.int .i64 ((x:Int)+1)]:=by simpa using h5.put 0 (.int .i64 ((x:Int)+1))
  have h6':=h6.far (p:=⟨w.heap.size+1+1+1,0,none⟩) (by simp) (.int .i64 ((x:Int)+1));have c1:=h5'.cell 0;simp only [zq]at c1;have hbt:=(hR1.1).size;have c2:=h6'.cell 0;have f2:=h6'.frozen 0;simp only [zq]at c2;have hKO:=KeepsOthers.setCell W ⟨w.heap.size+1+1+1,0,none⟩ (.int .i64 ((x:Int)+1));have hKR:=xzma h5 (by decide) 0 (.int .i64 ((x:Int)+1));generalize hW1:W.setCell ⟨w.heap.size+1+1+1,0,none⟩ (.int .i64 ((x:Int)+1))=W1 at*;have HW1:=zd hW1;have HA:=zd (And.intro h1 (And.intro h2 (And.intro h3 (And.intro h4 (And.intro h5 h6)))));have HB:=zd (And.intro hR1 (And.intro h5' (And.intro h6' (And.intro hbt (And.intro hKO hKR)))));have HC:=zd hK1;clear hK1 hR1 h5' h6' hbt hKO hKR hlen h1 h2 h3 h4 h5 h6 g1 g2 g3 g5;have hds:=zd (xzvf t s b o st);have hns:=zd (xzjq t s b o 0 0 0 st);have hok:=zd (xzoj t s b o 0 0 0 st)
  have hfin:∀ W3,KeepsOthers W1 W3->Below w.heap.size W1 W3->BlkIs W3 (w.heap.size+1) 4 #[.bool false]->(Tree.node k m l lo hi).mayN=false->KeepsOthers W (W3.setCell ⟨w.heap.size+1,0,none⟩ (.bool false))/\MayX w (.node k m l lo hi) (W3.setCell ⟨w.heap.size+1,0,none⟩ (.bool false)):=fun W3 k1 k2 k3 k4=>
   ⟨(HB.out.2.2.2.2.1.trans k1).trans (KeepsOthers.setCell _ _ _),((HB.out.1.1.trans k2).setCell (p:=⟨w.heap.size+1,0,none⟩) (Nat.le_succ _) _),k4,by simpa using k3.put 0 (.bool false)⟩
  have HF:=zd hfin;clear hfin
  by_cases hq1:x+1>300
  ·have e1:decide (((x:Int)+1)>300)=true:=decide_eq_true (by omega)
   gi_wp2
   refine⟨trivial,?_⟩
   gi_wp2
   refine HF.out W1 (KeepsOthers.refl _) (Below.refl _ _) HB.out.2.2.1 ?_;have h2:=HA.out.2.1;have h3:=hns.out;unfold Tree.mayN;rw [decide_eq_false (by omega)];rfl
  ·have e1:decide (((x:Int)+1)>300)=false:=decide_eq_false (by omega)
   by_cases hq2:st.length+1>30
   ·have e2:decide (((st.length:Int)+1)>30)=true:=decide_eq_true (by omega)
    gi_wp2
    refine⟨trivial,?_⟩
    gi_wp2
    refine HF.out W1 (KeepsOthers.refl _) (Below.refl _ _) HB.out.2.2.1 ?_;have h4:=HA.out.2.2.2.1;have h3:=hds.out;rw [decide_eq_false (show ¬ deepS ((t::s,b,o)::st)<=30 by omega)]at h4;unfold Tree.mayN;rw [<-h4];simp
   ·have e2:decide (((st.length:Int)+1)>30)=false:=decide_eq_false (by omega)
    obtain⟨r0,r1,r2,r3,r4,r5,r6,r7⟩:=xzai g4 (Below.refl _ _);have HM:=zd (xzsz t.kind t.set A1 t.sub.length cc t.lo t.hi W1);unfold reV reL at HM;have HO:=zd (xzoj t s b o 0 0 0 st);generalize hq:okNode t.kind t.set t.sub.length t.lo t.hi=q at*;have HQ:=zd hq;clear hq hok
    cases q
    ·gi_wp2_with (first|(refine⟨trivial,?_⟩;gi_at_call 64;refine(CallsIn.inRound l' (callsIn_wide.2 HM.out)).mono ?_;rintro e W3 ⟨rfl,hb3⟩;have hbl3:=HB.out.2.2.1.step hb3;have cB3:=hbl3.cell 0;have fB3:=hbl3.frozen 0;simp only [zq]at cB3))
     refine HF.out W3 (xzhq hb3) (hb3.mono HB.out.2.2.2.1) hbl3 ?_;have h4:=HA.out.2.2.2.1;rw [HO.out,Bool.false_and,Bool.and_false]at h4;unfold Tree.mayN;rw [<-h4,Bool.and_false]
    ·gi_wp2_with (first|(refine⟨trivial,?_⟩;gi_at_call 64;refine(CallsIn.inRound l' (callsIn_wide.2 HM.out)).mono ?_;rintro e W3 ⟨rfl,hb3⟩;have hbl3:=HB.out.2.2.1.step hb3;have cB3:=hbl3.cell 0;have fB3:=hbl3.frozen 0;simp only [zq]at cB3))
     have hkt:KeepsTrees w W1 W3:=(xzjn hb3).trees HB.out.2.2.2.1 HB.out.2.2.2.1;refine⟨HB.out.2.2.2.2.1.trans (xzhq hb3),HB.out.2.2.2.2.2.trans (xzvh hb3),RowsIn.told HA.out.1 ⟨HC.out.1.trans hkt.1,fun k cs hk=>hkt.2 k cs (HC.out.2 k cs hk)⟩ fun b' o' hr=>⟨hr,x+1,?_,by omega,?_,?_,hbl3⟩⟩
     ·have h2:=HA.out.2.1
      have h3:=xzjq t s b o b' o' (o+8) st;omega
     ·have h4:=HA.out.2.2.2.1
      have h3:=xzve t s b o b' o' (o+8) st;have h5:=xzoj t s b o b' o' (o+8) st;rw [<-h4,<-h3,h5,HQ.out,Bool.true_and]
      congr 1
      exact decide_eq_decide.2 (by omega)
     ·have:=HB.out.2.1.step hb3
      rw [show((x+1:Nat):Int)=(x:Int)+1 by omega];exact this
 case done=>
  rintro d W hd' ⟨h1,x,h2,h3,h4,h5,h6⟩ hk;have c0:=h6.cell 0;have f0:=h6.frozen 0;simp only [zq]at c0;have HH:=zd (And.intro h2 (And.intro h3 h4));have HB:=zd h1.1;clear h1 h2 h3 h4 h5;go_wp2;have hK':=(KeepsOthers.setCell W ⟨w.heap.size+1,0,none⟩ (.bool true)).same d _ hk rfl;refine⟨by simp,.inl ⟨_,_,rfl,run_takeDeferred hK',?_⟩⟩
  have hb':BlkIs (W.setCell ⟨w.heap.size+1,0,none⟩ (.bool true)) (w.heap.size+1) 4 #[.bool true]:=by simpa using h6.put 0 (.bool true)
  have hl:=xzqj (xzmb (.deferred none) hb' hK' rfl);refine⟨_,xzae (p:=2) (ty:=4) rfl rfl hl,?_,(HB.out.setCell (p:=⟨w.heap.size+1,0,none⟩) (Nat.le_succ _) _).trans (belowK_b (w:=w) (Nat.le_refl _) _ d _ _ (by omega) hK' rfl rfl)⟩;obtain⟨h2,h3,h4⟩:=HH.out;simp only [nodesS,Nat.add_zero]at h2;simp only [deepS,okS,Bool.and_true]at h4;unfold Tree.mayN;rw [decide_eq_true (by omega),<-h4];rfl
 case stop=>
  rintro d W hd' ⟨h1,h2,h3⟩ hk
  gi_wp2
  refine⟨by simp,.inl ⟨_,_,rfl,run_takeDeferred hk,?_⟩⟩;have hl:=xzqj (xzmb (.deferred none) h3 hk rfl);refine⟨_,xzae (p:=2) (ty:=4) rfl rfl hl,?_,h1.trans (belowK_b (w:=w) (Nat.le_refl _) _ d _ _ (by omega) hk rfl rfl)⟩;rw [h2]
end
end Go.Proofs.YtgbljnnmhmlifaaGreatDoor
