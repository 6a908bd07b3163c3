/-
 WHETHER A NODE MAY BE, BY PACKAGE rx: the forms of the five kinds, the array of them, may: contracts. No condition.
-/
import Derived.Deep.RegionHeld3
import Derived.BigQuiet
import Derived.Test.YtgjfhbpmahgfcaaDoorQG05
import Derived.Test.YtgjfhbpmahgfcaaDoorQG06
import Derived.Test.YtgjfhbpmahgfcaaDoorQG03
namespace Go.Proofs.YtgjfhbpmahgfcaaDoor
section
open Go.RowKit
def byteMayB (n:Nat)(lo hi:Int):Bool:=decide (n=0)&&(decide (lo=0)&&decide (hi=0))
def emptyMayB (m:Nat->Bool)(n:Nat)(lo hi:Int):Bool:=setEq m (fun _=>false)&&byteMayB n lo hi
def rowMayB (m:Nat->Bool)(n:Nat)(lo hi:Int):Bool:=setEq m (fun _=>false)&&(decide (2<=n)&&(decide (lo=0)&&decide (hi=0)))
def repMayB (m:Nat->Bool)(n:Nat)(lo hi:Int):Bool:=setEq m (fun _=>false)&&(decide (n=1)&&(decide (0<=lo)&&(decide (lo<=64)&&(decide (hi= -1)||(decide (lo<=hi)&&decide (hi<=64))))))
set_option maxHeartbeats 1000000 in
theorem xzcp (k:Int)(m:Nat->Bool)(A:Option Addr)(n c:Nat)(lo hi:Int)(w:World):
 Calls Tryd.prog 72 #[reV k m A n c lo hi] w fun e w'=>e=.returned (.bool (byteMayB n lo hi))/\Below w.heap.size w w':=by
 unfold reV reL byteMayB;have hbox:=BlkIs.new w 103 (reL k m A n c lo hi).toArray;unfold reL at hbox;obtain⟨c0,c1,c2,c3,c4,c5,c6,c7⟩:=hbox.eight;clear hbox;have b0:Below w.heap.size w (w.alloc (.cells #[.int .i64 k,.int .u64 (wd m 0:Nat),.int .u64 (wd m 1:Nat),.int .u64 (wd m 2:Nat),.int .u64 (wd m 3:Nat),.slice A n c,.int .i64 lo,.int .i64 hi] 103)):=(Below.refl _ _).alloc (Nat.le_refl _) _;have HB:=zd b0;clear b0
 by_cases h1:n=0
 ·subst h1
  by_cases h2:lo=0
  ·subst h2
   by_cases h3:hi=0
   ·subst h3
    go_enter Tryd.func72,Tryd.ntmps72
    go_wp2;go_ret;exact⟨rfl,HB.out⟩
   ·have e3:(hi==0)=false:=by simp [h3]
    have d3:decide (hi=0)=false:=by simp [h3]
    rw [d3]
    go_enter Tryd.func72,Tryd.ntmps72
    go_wp2;go_ret;exact⟨rfl,HB.out⟩
  ·have e2:(lo==0)=false:=by simp [h2]
   have d2:decide (lo=0)=false:=by simp [h2]
   rw [d2]
   go_enter Tryd.func72,Tryd.ntmps72
   go_wp2;go_ret;exact⟨rfl,HB.out⟩
 ·have e1:((n:Int)==0)=false:=by simp;omega
  have d1:decide (n=0)=false:=by simp [h1]
  rw [d1]
  go_enter Tryd.func72,Tryd.ntmps72
  go_wp2;go_ret;exact⟨rfl,HB.out⟩
set_option maxHeartbeats 1000000 in
theorem xzee (k:Int)(m:Nat->Bool)(A:Option Addr)(n c:Nat)(lo hi:Int)(w:World):
 Calls Tryd.prog 71 #[reV k m A n c lo hi] w fun e w'=>e=.returned (.bool (emptyMayB m n lo hi))/\Below w.heap.size w w':=by
 have hcall:=fun u=>xzcp k m A n c lo hi u
 have hne:=xzgq m (fun _=>false);rw [xzbz]at hne;unfold setV at hne;unfold reV reL emptyMayB at*;generalize byteMayB n lo hi=q at*;have hbox:=BlkIs.new w 103 (reL k m A n c lo hi).toArray;unfold reL at hbox;obtain⟨c0,c1,c2,c3,c4,c5,c6,c7⟩:=hbox.eight;clear hbox;have b0:Below w.heap.size w (w.alloc (.cells #[.int .i64 k,.int .u64 (wd m 0:Nat),.int .u64 (wd m 1:Nat),.int .u64 (wd m 2:Nat),.int .u64 (wd m 3:Nat),.slice A n c,.int .i64 lo,.int .i64 hi] 103)):=(Below.refl _ _).alloc (Nat.le_refl _) _;have HB:=zd b0;have HC:=zd hcall;clear b0 hcall;generalize hs:setEq m (fun _=>false)=y at*
 cases y
 ·go_enter Tryd.func71,Tryd.ntmps71
  go_wp2;go_ret;exact⟨rfl,HB.out⟩
 ·rw [Bool.true_and]
  go_enter Tryd.func71,Tryd.ntmps71
  go_wp2_with fail
  refine(HC.out _).mono ?_;rintro e w1 ⟨rfl,hb1⟩;have HB1:=zd (HB.out.trans (hb1.mono HB.out.size));clear hb1;go_wp2;go_ret;exact⟨rfl,HB1.out⟩
set_option maxHeartbeats 2000000 in
theorem xzdj (k:Int)(m:Nat->Bool)(A:Option Addr)(n c:Nat)(lo hi:Int)(w:World):
 Calls Tryd.prog 73 #[reV k m A n c lo hi] w fun e w'=>e=.returned (.bool (rowMayB m n lo hi))/\Below w.heap.size w w':=by
 have hne:=xzgq m (fun _=>false);rw [xzbz]at hne;unfold setV at hne;unfold reV reL;have hbox:=BlkIs.new w 103 (reL k m A n c lo hi).toArray;unfold reL at hbox;obtain⟨c0,c1,c2,c3,c4,c5,c6,c7⟩:=hbox.eight;clear hbox;have b0:Below w.heap.size w (w.alloc (.cells #[.int .i64 k,.int .u64 (wd m 0:Nat),.int .u64 (wd m 1:Nat),.int .u64 (wd m 2:Nat),.int .u64 (wd m 3:Nat),.slice A n c,.int .i64 lo,.int .i64 hi] 103)):=(Below.refl _ _).alloc (Nat.le_refl _) _;have HB:=zd b0;clear b0;obtain⟨R,hR⟩:∃ R,rowMayB m n lo hi=R:=⟨_,rfl⟩;rw [hR];unfold rowMayB at hR;have HR:=zd hR;clear hR;generalize hs:setEq m (fun _=>false)=y at*
 go_enter Tryd.func73,Tryd.ntmps73
 go_wp2
 all_goals (
  go_ret;refine⟨?_,(Below.refl _ _).alloc (Nat.le_refl _) _⟩;rw [<-HR.out];refine congrArg (fun b=>Ending.returned (Value.bool b)) ?_;clear HR HB hne
  first|(simp_all;done)|(simp_all;omega)|grind)
set_option maxHeartbeats 4000000 in
theorem xzgx (k:Int)(m:Nat->Bool)(A:Option Addr)(n c:Nat)(lo hi:Int)(w:World):
 Calls Tryd.prog 74 #[reV k m A n c lo hi] w fun e w'=>e=.returned (.bool (repMayB m n lo hi))/\Below w.heap.size w w':=by
 have hne:=xzgq m (fun _=>false);rw [xzbz]at hne;unfold setV at hne;unfold reV reL;have hbox:=BlkIs.new w 103 (reL k m A n c lo hi).toArray;unfold reL at hbox;obtain⟨c0,c1,c2,c3,c4,c5,c6,c7⟩:=hbox.eight;clear hbox;obtain⟨R,hR⟩:∃ R,repMayB m n lo hi=R:=⟨_,rfl⟩;rw [hR];unfold repMayB at hR;have HR:=zd hR;clear hR;generalize hs:setEq m (fun _=>false)=y at*
 go_enter Tryd.func74,Tryd.ntmps74
 go_wp2
 all_goals (
  go_ret;refine⟨?_,(Below.refl _ _).alloc (Nat.le_refl _) _⟩;rw [<-HR.out];refine congrArg (fun b=>Ending.returned (Value.bool b)) ?_;clear HR hne
  first|(simp_all;done)|(simp_all;omega)|grind)
def formsA:Array Value:=#[.func (.func 71) #[] #[],.func (.func 72) #[] #[],.func (.func 73) #[] #[],.func (.func 73) #[] #[],.func (.func 74) #[] #[]]
theorem xzbo {B:Nat}{w0:World}(g:Nat):∀ (vs:List Value) (o:Nat) (w:World),B<=g->Below B w0 w->Below B w0 (w.setCells g o vs)
 |[],_,_,_,h=>h
 |v::r,o,w,hg,h=>by
  rw [World.setCells];exact xzbo g r (o+1) _ hg (h.setCell (p:=⟨g,o,none⟩) hg v)
theorem xzdk:(Tryd.prog.info? 113).map (·.size)=some 5:=by kernel_rfl
theorem formsOne:formsA.all (·.oneCell')=true:=by simp [formsA,Value.oneCell']
theorem xzbk (w:World):Calls Tryd.prog 59 #[] w fun e w'=>e=.returned (.agg formsA)/\Below w.heap.size w w':=by
 have hr:=BlkIs.new w 113 #[Value.nilFunc,Value.nilFunc,Value.nilFunc,Value.nilFunc,Value.nilFunc];have hw:=hr.fill (new:=formsA) rfl;have hB:=xzbo w.heap.size formsA.toList 0 _ (Nat.le_refl _) ((Below.refl w.heap.size w).alloc (Nat.le_refl _) (.cells #[Value.nilFunc,Value.nilFunc,Value.nilFunc,Value.nilFunc,Value.nilFunc] 113));have hl:=run_loadVar_mid (P:=Tryd.prog) _ w.heap.size 0 113 formsA.toList _ hw.range Tryd.underlying113 rfl xzdk;have HB:=zd hB;have HL:=zd hl;have HR:=zd hr;clear hw hB hl hr
 go_enter Tryd.func59,Tryd.ntmps59
 go_wp2_with(first|refine wpList_store_mid rfl 113 (.tmp 0) (.tmp 1) rfl w.heap.size 0 formsA rfl rfl HR.out.there xzdk formsOne ?_)
 exact bodyPost_ret (xzak rfl (by simp [Act.put]) HL.out) rfl ⟨rfl,HB.out⟩
def nodeMayB (k:Int)(m:Nat->Bool)(n:Nat)(lo hi:Int):Bool:=
 if k=0 then emptyMayB m n lo hi else if k=1 then byteMayB n lo hi else if k=2\/k=3 then rowMayB m n lo hi else if k=4 then repMayB m n lo hi else false
theorem xzgy (k:Int)(m:Nat->Bool)(n:Nat)(lo hi:Int):nodeMayB k m n lo hi=okNode k m n lo hi:=by
 unfold nodeMayB okNode emptyMayB byteMayB rowMayB repMayB;generalize setEq m (fun _=>false)=y
 by_cases h0:k=0
 ·subst h0;cases y<;>by_cases e1:n=0<;>by_cases e2:lo=0<;>by_cases e3:hi=0<;>simp [e1,e2,e3]
 by_cases h1:k=1
 ·subst h1;cases y<;>by_cases e1:n=0<;>by_cases e2:lo=0<;>by_cases e3:hi=0<;>simp [e1,e2,e3]
 by_cases h2:k=2\/k=3
 ·have h4:k≠4:=by omega
  cases y<;>by_cases e1:2<=n<;>by_cases e2:lo=0<;>by_cases e3:hi=0<;>simp [h0,h1,h2,h4,e1,e2,e3]
 by_cases h4:k=4
 ·subst h4;cases y
  ·simp
  ·rw [Bool.eq_iff_iff];simp
 simp [h0,h1,h2,h4]
set_option maxRecDepth 100000 in
set_option maxHeartbeats 4000000 in
theorem may_in0 (m:Nat->Bool)(A:Option Addr)(n c:Nat)(lo hi:Int)(w:World):
 Calls Tryd.prog 49 #[reV 0 m A n c lo hi] w fun e w'=>e=.returned (.bool (emptyMayB m n lo hi))/\Below w.heap.size w w':=by
 have hcall:=fun u=>xzee 0 m A n c lo hi u
 generalize emptyMayB m n lo hi=q at*;unfold reV reL at*;have hbox:=BlkIs.new w 103 (reL 0 m A n c lo hi).toArray;have b0:Below w.heap.size w (w.alloc (.cells (reL 0 m A n c lo hi).toArray 103)):=(Below.refl _ _).alloc (Nat.le_refl _) _;unfold reL at hbox b0
 have hix:∀ u,(Instr.index 113 (.agg formsA) (.int .i64 0)).run Tryd.prog u=.ok (.func (.func 71) #[] #[]) u:=fun u=>by kernel_rfl
 go_enter Tryd.func49,Tryd.ntmps49
 go_wp2;generalize w.alloc (.cells #[.int .i64 0,.int .u64 (wd m 0:Nat),.int .u64 (wd m 1:Nat),.int .u64 (wd m 2:Nat),.int .u64 (wd m 3:Nat),.slice A n c,.int .i64 lo,.int .i64 hi] 103)=w2 at*;obtain⟨c0,c1,c2,c3,c4,c5,c6,c7⟩:=hbox.eight;have HX:=zd hbox;have HB:=zd b0;have HC:=zd hcall;clear hbox b0 hcall
 go_region_held3 (fun w'=>Below w2.heap.size w2 w'/\w'.cell? ⟨w.heap.size,0,none⟩=some (.int .i64 0)/\w'.cell? ⟨w.heap.size,1,none⟩=some (.int .u64 (wd m 0:Nat))/\w'.cell? ⟨w.heap.size,2,none⟩=some (.int .u64 (wd m 1:Nat))/\
  w'.cell? ⟨w.heap.size,3,none⟩=some (.int .u64 (wd m 2:Nat))/\w'.cell? ⟨w.heap.size,4,none⟩=some (.int .u64 (wd m 3:Nat))/\w'.cell? ⟨w.heap.size,5,none⟩=some (.slice A n c)/\w'.cell? ⟨w.heap.size,6,none⟩=some (.int .i64 lo)/\w'.cell? ⟨w.heap.size,7,none⟩=some (.int .i64 hi))
  ((first
    |(have hb3:=(by assumption:Below w2.heap.size w2 _/\_).1.trans (hb1.mono (by assumption:Below w2.heap.size w2 _/\_).1.size);exact⟨hb3,(HX.out.step hb3).eight⟩)
    |exact⟨(Below.refl _ _).drew,HX.out.eight⟩
    |assumption
    |go_keep))
  ((first
    |(go_at_call 59;go_must(refine(xzbk _).mono ?_);rintro e w1 ⟨rfl,hb1⟩)
    |(go_at_call 71;go_must(refine(HC.out _).mono ?_);rintro e w1 ⟨rfl,hb1⟩)))
 have hS:=(by assumption:Below w2.heap.size w2 w1/\_).1;have HS:=zd (HB.out.trans (hS.mono HB.out.size));clear hS;go_wp2;go_ret;exact⟨rfl,HS.out⟩
set_option maxRecDepth 100000 in
set_option maxHeartbeats 4000000 in
theorem may_in1 (m:Nat->Bool)(A:Option Addr)(n c:Nat)(lo hi:Int)(w:World):
 Calls Tryd.prog 49 #[reV 1 m A n c lo hi] w fun e w'=>e=.returned (.bool (byteMayB n lo hi))/\Below w.heap.size w w':=by
 have hcall:=fun u=>xzcp 1 m A n c lo hi u
 generalize byteMayB n lo hi=q at*;unfold reV reL at*;have hbox:=BlkIs.new w 103 (reL 1 m A n c lo hi).toArray;have b0:Below w.heap.size w (w.alloc (.cells (reL 1 m A n c lo hi).toArray 103)):=(Below.refl _ _).alloc (Nat.le_refl _) _;unfold reL at hbox b0
 have hix:∀ u,(Instr.index 113 (.agg formsA) (.int .i64 1)).run Tryd.prog u=.ok (.func (.func 72) #[] #[]) u:=fun u=>by kernel_rfl
 go_enter Tryd.func49,Tryd.ntmps49
 go_wp2;generalize w.alloc (.cells #[.int .i64 1,.int .u64 (wd m 0:Nat),.int .u64 (wd m 1:Nat),.int .u64 (wd m 2:Nat),.int .u64 (wd m 3:Nat),.slice A n c,.int .i64 lo,.int .i64 hi] 103)=w2 at*;obtain⟨c0,c1,c2,c3,c4,c5,c6,c7⟩:=hbox.eight;have HX:=zd hbox;have HB:=zd b0;have HC:=zd hcall;clear hbox b0 hcall
 go_region_held3 (fun w'=>Below w2.heap.size w2 w'/\w'.cell? ⟨w.heap.size,0,none⟩=some (.int .i64 1)/\w'.cell? ⟨w.heap.size,1,none⟩=some (.int .u64 (wd m 0:Nat))/\w'.cell? ⟨w.heap.size,2,none⟩=some (.int .u64 (wd m 1:Nat))/\
  w'.cell? ⟨w.heap.size,3,none⟩=some (.int .u64 (wd m 2:Nat))/\w'.cell? ⟨w.heap.size,4,none⟩=some (.int .u64 (wd m 3:Nat))/\w'.cell? ⟨w.heap.size,5,none⟩=some (.slice A n c)/\w'.cell? ⟨w.heap.size,6,none⟩=some (.int .i64 lo)/\w'.cell? ⟨w.heap.size,7,none⟩=some (.int .i64 hi))
  ((first
    |(have hb3:=(by assumption:Below w2.heap.size w2 _/\_).1.trans (hb1.mono (by assumption:Below w2.heap.size w2 _/\_).1.size);exact⟨hb3,(HX.out.step hb3).eight⟩)
    |exact⟨(Below.refl _ _).drew,HX.out.eight⟩
    |assumption
    |go_keep))
  ((first
    |(go_at_call 59;go_must(refine(xzbk _).mono ?_);rintro e w1 ⟨rfl,hb1⟩)
    |(go_at_call 72;go_must(refine(HC.out _).mono ?_);rintro e w1 ⟨rfl,hb1⟩)))
 have hS:=(by assumption:Below w2.heap.size w2 w1/\_).1;have HS:=zd (HB.out.trans (hS.mono HB.out.size));clear hS;go_wp2;go_ret;exact⟨rfl,HS.out⟩
set_option maxRecDepth 100000 in
set_option maxHeartbeats 4000000 in
theorem may_in2 (m:Nat->Bool)(A:Option Addr)(n c:Nat)(lo hi:Int)(w:World):
 Calls Tryd.prog 49 #[reV 2 m A n c lo hi] w fun e w'=>e=.returned (.bool (rowMayB m n lo hi))/\Below w.heap.size w w':=by
 have hcall:=fun u=>xzdj 2 m A n c lo hi u
 generalize rowMayB m n lo hi=q at*;unfold reV reL at*;have hbox:=BlkIs.new w 103 (reL 2 m A n c lo hi).toArray;have b0:Below w.heap.size w (w.alloc (.cells (reL 2 m A n c lo hi).toArray 103)):=(Below.refl _ _).alloc (Nat.le_refl _) _;unfold reL at hbox b0
 have hix:∀ u,(Instr.index 113 (.agg formsA) (.int .i64 2)).run Tryd.prog u=.ok (.func (.func 73) #[] #[]) u:=fun u=>by kernel_rfl
 go_enter Tryd.func49,Tryd.ntmps49
 go_wp2;generalize w.alloc (.cells #[.int .i64 2,.int .u64 (wd m 0:Nat),.int .u64 (wd m 1:Nat),.int .u64 (wd m 2:Nat),.int .u64 (wd m 3:Nat),.slice A n c,.int .i64 lo,.int .i64 hi] 103)=w2 at*;obtain⟨c0,c1,c2,c3,c4,c5,c6,c7⟩:=hbox.eight;have HX:=zd hbox;have HB:=zd b0;have HC:=zd hcall;clear hbox b0 hcall
 go_region_held3 (fun w'=>Below w2.heap.size w2 w'/\w'.cell? ⟨w.heap.size,0,none⟩=some (.int .i64 2)/\w'.cell? ⟨w.heap.size,1,none⟩=some (.int .u64 (wd m 0:Nat))/\w'.cell? ⟨w.heap.size,2,none⟩=some (.int .u64 (wd m 1:Nat))/\
  w'.cell? ⟨w.heap.size,3,none⟩=some (.int .u64 (wd m 2:Nat))/\w'.cell? ⟨w.heap.size,4,none⟩=some (.int .u64 (wd m 3:Nat))/\w'.cell? ⟨w.heap.size,5,none⟩=some (.slice A n c)/\w'.cell? ⟨w.heap.size,6,none⟩=some (.int .i64 lo)/\w'.cell? ⟨w.heap.size,7,none⟩=some (.int .i64 hi))
  ((first
    |(have hb3:=(by assumption:Below w2.heap.size w2 _/\_).1.trans (hb1.mono (by assumption:Below w2.heap.size w2 _/\_).1.size);exact⟨hb3,(HX.out.step hb3).eight⟩)
    |exact⟨(Below.refl _ _).drew,HX.out.eight⟩
    |assumption
    |go_keep))
  ((first
    |(go_at_call 59;go_must(refine(xzbk _).mono ?_);rintro e w1 ⟨rfl,hb1⟩)
    |(go_at_call 73;go_must(refine(HC.out _).mono ?_);rintro e w1 ⟨rfl,hb1⟩)))
 have hS:=(by assumption:Below w2.heap.size w2 w1/\_).1;have HS:=zd (HB.out.trans (hS.mono HB.out.size));clear hS;go_wp2;go_ret;exact⟨rfl,HS.out⟩
set_option maxRecDepth 100000 in
set_option maxHeartbeats 4000000 in
theorem may_in3 (m:Nat->Bool)(A:Option Addr)(n c:Nat)(lo hi:Int)(w:World):
 Calls Tryd.prog 49 #[reV 3 m A n c lo hi] w fun e w'=>e=.returned (.bool (rowMayB m n lo hi))/\Below w.heap.size w w':=by
 have hcall:=fun u=>xzdj 3 m A n c lo hi u
 generalize rowMayB m n lo hi=q at*;unfold reV reL at*;have hbox:=BlkIs.new w 103 (reL 3 m A n c lo hi).toArray;have b0:Below w.heap.size w (w.alloc (.cells (reL 3 m A n c lo hi).toArray 103)):=(Below.refl _ _).alloc (Nat.le_refl _) _;unfold reL at hbox b0
 have hix:∀ u,(Instr.index 113 (.agg formsA) (.int .i64 3)).run Tryd.prog u=.ok (.func (.func 73) #[] #[]) u:=fun u=>by kernel_rfl
 go_enter Tryd.func49,Tryd.ntmps49
 go_wp2;generalize w.alloc (.cells #[.int .i64 3,.int .u64 (wd m 0:Nat),.int .u64 (wd m 1:Nat),.int .u64 (wd m 2:Nat),.int .u64 (wd m 3:Nat),.slice A n c,.int .i64 lo,.int .i64 hi] 103)=w2 at*;obtain⟨c0,c1,c2,c3,c4,c5,c6,c7⟩:=hbox.eight;have HX:=zd hbox;have HB:=zd b0;have HC:=zd hcall;clear hbox b0 hcall
 go_region_held3 (fun w'=>Below w2.heap.size w2 w'/\w'.cell? ⟨w.heap.size,0,none⟩=some (.int .i64 3)/\w'.cell? ⟨w.heap.size,1,none⟩=some (.int .u64 (wd m 0:Nat))/\w'.cell? ⟨w.heap.size,2,none⟩=some (.int .u64 (wd m 1:Nat))/\
  w'.cell? ⟨w.heap.size,3,none⟩=some (.int .u64 (wd m 2:Nat))/\w'.cell? ⟨w.heap.size,4,none⟩=some (.int .u64 (wd m 3:Nat))/\w'.cell? ⟨w.heap.size,5,none⟩=some (.slice A n c)/\w'.cell? ⟨w.heap.size,6,none⟩=some (.int .i64 lo)/\w'.cell? ⟨w.heap.size,7,none⟩=some (.int .i64 hi))
  ((first
    |(have hb3:=(by assumption:Below w2.heap.size w2 _/\_).1.trans (hb1.mono (by assumption:Below w2.heap.size w2 _/\_).1.size);exact⟨hb3,(HX.out.step hb3).eight⟩)
    |exact⟨(Below.refl _ _).drew,HX.out.eight⟩
    |assumption
    |go_keep))
  ((first
    |(go_at_call 59;go_must(refine(xzbk _).mono ?_);rintro e w1 ⟨rfl,hb1⟩)
    |(go_at_call 73;go_must(refine(HC.out _).mono ?_);rintro e w1 ⟨rfl,hb1⟩)))
 have hS:=(by assumption:Below w2.heap.size w2 w1/\_).1;have HS:=zd (HB.out.trans (hS.mono HB.out.size));clear hS;go_wp2;go_ret;exact⟨rfl,HS.out⟩
set_option maxRecDepth 100000 in
set_option maxHeartbeats 4000000 in
theorem may_in4 (m:Nat->Bool)(A:Option Addr)(n c:Nat)(lo hi:Int)(w:World):
 Calls Tryd.prog 49 #[reV 4 m A n c lo hi] w fun e w'=>e=.returned (.bool (repMayB m n lo hi))/\Below w.heap.size w w':=by
 have hcall:=fun u=>xzgx 4 m A n c lo hi u
 generalize repMayB m n lo hi=q at*;unfold reV reL at*;have hbox:=BlkIs.new w 103 (reL 4 m A n c lo hi).toArray;have b0:Below w.heap.size w (w.alloc (.cells (reL 4 m A n c lo hi).toArray 103)):=(Below.refl _ _).alloc (Nat.le_refl _) _;unfold reL at hbox b0
 have hix:∀ u,(Instr.index 113 (.agg formsA) (.int .i64 4)).run Tryd.prog u=.ok (.func (.func 74) #[] #[]) u:=fun u=>by kernel_rfl
 go_enter Tryd.func49,Tryd.ntmps49
 go_wp2;generalize w.alloc (.cells #[.int .i64 4,.int .u64 (wd m 0:Nat),.int .u64 (wd m 1:Nat),.int .u64 (wd m 2:Nat),.int .u64 (wd m 3:Nat),.slice A n c,.int .i64 lo,.int .i64 hi] 103)=w2 at*;obtain⟨c0,c1,c2,c3,c4,c5,c6,c7⟩:=hbox.eight;have HX:=zd hbox;have HB:=zd b0;have HC:=zd hcall;clear hbox b0 hcall
 go_region_held3 (fun w'=>Below w2.heap.size w2 w'/\w'.cell? ⟨w.heap.size,0,none⟩=some (.int .i64 4)/\w'.cell? ⟨w.heap.size,1,none⟩=some (.int .u64 (wd m 0:Nat))/\w'.cell? ⟨w.heap.size,2,none⟩=some (.int .u64 (wd m 1:Nat))/\
  w'.cell? ⟨w.heap.size,3,none⟩=some (.int .u64 (wd m 2:Nat))/\w'.cell? ⟨w.heap.size,4,none⟩=some (.int .u64 (wd m 3:Nat))/\w'.cell? ⟨w.heap.size,5,none⟩=some (.slice A n c)/\w'.cell? ⟨w.heap.size,6,none⟩=some (.int .i64 lo)/\w'.cell? ⟨w.heap.size,7,none⟩=some (.int .i64 hi))
  ((first
    |(have hb3:=(by assumption:Below w2.heap.size w2 _/\_).1.trans (hb1.mono (by assumption:Below w2.heap.size w2 _/\_).1.size);exact⟨hb3,(HX.out.step hb3).eight⟩)
    |exact⟨(Below.refl _ _).drew,HX.out.eight⟩
    |assumption
    |go_keep))
  ((first
    |(go_at_call 59;go_must(refine(xzbk _).mono ?_);rintro e w1 ⟨rfl,hb1⟩)
    |(go_at_call 74;go_must(refine(HC.out _).mono ?_);rintro e w1 ⟨rfl,hb1⟩)))
 have hS:=(by assumption:Below w2.heap.size w2 w1/\_).1;have HS:=zd (HB.out.trans (hS.mono HB.out.size));clear hS;go_wp2;go_ret;exact⟨rfl,HS.out⟩
set_option maxRecDepth 100000 in
set_option maxHeartbeats 2000000 in
theorem may_out (k:Int)(m:Nat->Bool)(A:Option Addr)(n c:Nat)(lo hi:Int)(w:World)(hk:k<0\/5<=k):
 Calls Tryd.prog 49 #[reV k m A n c lo hi] w fun e w'=>e=.returned (.bool false)/\Below w.heap.size w w':=by
 unfold reV reL at*;have hbox:=BlkIs.new w 103 (reL k m A n c lo hi).toArray;have b0:Below w.heap.size w (w.alloc (.cells (reL k m A n c lo hi).toArray 103)):=(Below.refl _ _).alloc (Nat.le_refl _) _;unfold reL at hbox b0
 go_enter Tryd.func49,Tryd.ntmps49
 go_wp2;generalize w.alloc (.cells #[.int .i64 k,.int .u64 (wd m 0:Nat),.int .u64 (wd m 1:Nat),.int .u64 (wd m 2:Nat),.int .u64 (wd m 3:Nat),.slice A n c,.int .i64 lo,.int .i64 hi] 103)=w2 at*;obtain⟨c0,c1,c2,c3,c4,c5,c6,c7⟩:=hbox.eight;have HB:=zd b0;clear hbox b0
 rcases hk with hk|hk
 ·have e1:decide (k>=0)=false:=by simp;omega
  go_quiet (fail)
  go_wp2;go_ret;exact⟨rfl,HB.out.os,HB.out.tape,HB.out.output,HB.out.size,HB.out.block⟩
 ·have e1:decide (k>=0)=true:=by simp;omega
  have e2:decide (k<5)=false:=by simp;omega
  go_quiet (fail)
  go_wp2;go_ret;exact⟨rfl,HB.out.os,HB.out.tape,HB.out.output,HB.out.size,HB.out.block⟩
theorem xzfp (k:Int)(m:Nat->Bool)(A:Option Addr)(n c:Nat)(lo hi:Int)(w:World):
 Calls Tryd.prog 49 #[reV k m A n c lo hi] w fun e w'=>e=.returned (.bool (okNode k m n lo hi))/\Below w.heap.size w w':=by
 rw [<-xzgy];unfold nodeMayB
 by_cases h0:k=0
 ·subst h0
  exact may_in0 m A n c lo hi w
 rw [if_neg h0]
 by_cases h1:k=1
 ·subst h1
  exact may_in1 m A n c lo hi w
 rw [if_neg h1]
 by_cases h2:k=2
 ·subst h2
  rw [if_pos (Or.inl rfl)];exact may_in2 m A n c lo hi w
 by_cases h3:k=3
 ·subst h3
  rw [if_pos (Or.inr rfl)];exact may_in3 m A n c lo hi w
 rw [if_neg (by omega)]
 by_cases h4:k=4
 ·subst h4
  exact may_in4 m A n c lo hi w
 rw [if_neg h4];exact may_out k m A n c lo hi w (by omega)
end
section
open Go.RowKit
mutual
def Tree.same:Tree->Tree->Bool
 | .node k m l lo hi,.node k' m' l' lo' hi'=>(k==k'&&(setEq m m'&&(lo==lo'&&(hi==hi'&&l.length==l'.length))))&&sameL l l'
def sameL:List Tree->List Tree->Bool
 |[],_=>true
 |_::_,[]=>true
 |t::r,t'::r'=>t.same t'&&sameL r r'
end
end
section
open Go.RowKit
def nodesS:List Row->Nat
 |[]=>0
 |r::st=>nodesL r.1+nodesS st
theorem xzcq (t:Tree)(s:List Tree)(b o b' o' o2:Nat)(st:List Row):nodesS ((t::s,b,o)::st)=nodesS ((t.sub,b',o')::(s,b,o2)::st)+1:=by
 cases t with
 |node k m l lo hi=>simp only [nodesS,nodesL,Tree.nodes,Tree.sub];omega
attribute [local go_sem] Oper.semAt_some
theorem xziv {w0 W:World}{g:Nat}{t:TypeId}{cs:Array Value}(hb:BlkIs W g t cs)(hg:w0.heap.size<=g)(h1:t≠34)(i:Nat)(v:Value):KeepsTrees w0 W (W.setCell ⟨g,i,none⟩ v):=by
 refine⟨(Below.refl _ W).setCell (p:=⟨g,i,none⟩) hg v,fun k c hk=>(Below.heap_setCell W ⟨g,i,none⟩ v k (fun e=>?_)).trans hk⟩
 dsimp only at e
 subst e;have:=hk.symm.trans (show W.heap[k]? =some (.cells cs t (0,0))from hb)
 injection this with this
 injection this with _ e
 exact h1 e.symm
theorem xzdl {W:World}{g:Nat}{t:TypeId}{cs:Array Value}(hb:BlkIs W g t cs)(h1:t≠32)(i:Nat)(v:Value):KeepsRows W (W.setCell ⟨g,i,none⟩ v):=by
 refine⟨(KeepsOthers.setCell W _ v).size,fun k c hk=>(Below.heap_setCell W ⟨g,i,none⟩ v k (fun e=>?_)).trans hk⟩
 dsimp only at e
 subst e;have:=hk.symm.trans (show W.heap[k]? =some (.cells cs t (0,0))from hb)
 injection this with this
 injection this with _ e
 exact h1 e.symm
def deepS:List Row->Nat
 |[]=>0
 |r::st=>max (if r.1=[]then 0 else st.length+deepL r.1) (deepS st)
theorem xzgz (t:Tree)(s:List Tree)(b o b' o' o2:Nat)(st:List Row):max (st.length+1) (deepS ((t.sub,b',o')::(s,b,o2)::st))=deepS ((t::s,b,o)::st):=by
 cases t with
 |node k m l lo hi=>
  simp only [deepS,deepL,Tree.deepN,Tree.sub,List.length_cons]
  cases l with
  |nil=>cases s<;>simp [deepL]<;>omega
  |cons a l=>cases s<;>simp [deepL]<;>omega
theorem xzha (t:Tree)(s:List Tree)(b o:Nat)(st:List Row):st.length+1<=deepS ((t::s,b,o)::st):=by
 cases t with
 |node k m l lo hi=>simp [deepS,deepL,Tree.deepN];omega
end
end Go.Proofs.YtgjfhbpmahgfcaaDoor
