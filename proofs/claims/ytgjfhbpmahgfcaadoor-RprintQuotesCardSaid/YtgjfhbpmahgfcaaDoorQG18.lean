/-
 rprint's chains of questions, all of which say yes: contracts. No condition.
-/
import Derived.Test.YtgjfhbpmahgfcaaDoorRows
import Derived.WalkKit
import Derived.WalkSpells
import Derived.ProofKit
import Derived.Lib.Hide
import Derived.Lib.ItoaNum
import Derived.Lib.ItoaWalk
import Derived.Laws.RangeString
import Derived.Laws.RangeAny
import Derived.Laws.IdiomStrings
import Derived.Lib.Bytealg
import Derived.BigQuiet
import Derived.WalkLawsBesides
import Derived.WideMake
import Derived.Carry
import Derived.Maps.Own
import Derived.Test.YtgjfhbpmahgfcaaDoorQG17
import Derived.Test.YtgjfhbpmahgfcaaDoorQG02
namespace Go.Proofs.YtgjfhbpmahgfcaaDoor
section
open Go.Shelf Go.RowKit
attribute [local irreducible] FreeW textFrame
theorem info25r:(Tryd.prog.info? 106).map (·.size)=some 25:=by kernel_rfl
section
variable {ops : Array Oper} {rest : List Oper} {op : Oper} {a : Act} {w : World} {Q : Exit → Act → World → Prop} {g : Nat}
theorem xzdx (hgd:op.guard=none)(x:Operand)(ho:op.op=.load 106 x)(hx:a.eval x=.pointer (some ⟨g,0,none⟩)){t:TypeId}{cs:Array Value}(h:BlkIs w g t cs)(hs:cs.size=25)
 (hK:wpList Tryd.prog ops Q rest (a.put op.dst (.agg cs)) w):wpList Tryd.prog ops Q (op::rest) a w:=
 wpList_load_mid hgd 106 x ho g 0 hx cs.toList _ h.range Tryd.underlying106 rfl (by rw [info25r,Array.length_toList,hs]) (by rw [Array.toArray_toList];exact hK)
end
set_option maxRecDepth 100000 in
set_option maxHeartbeats 4000000 in
theorem is_file (a0 a1:Value)(g:Nat)(w:World)(h0:w.cell? ⟨g,0,none⟩=some (.func (.func 25) #[] #[]))(h1:w.cell? ⟨g,1,none⟩=some (.func (.func 26) #[] #[]))(h2:w.cell? ⟨g,2,none⟩=some (.func (.func 27) #[] #[]))(h3:w.cell? ⟨g,3,none⟩=some (.func (.func 28) #[] #[]))(k0:∀ u,Below w.heap.size w u->Calls Tryd.prog 25 #[.agg #[a0,a1]] u fun e w'=>e=.returned (.bool true)/\Below u.heap.size u w')(k1:∀ u,Below w.heap.size w u->Calls Tryd.prog 26 #[.agg #[a0,a1]] u fun e w'=>e=.returned (.bool true)/\Below u.heap.size u w')(k2:∀ u,Below w.heap.size w u->Calls Tryd.prog 27 #[.agg #[a0,a1]] u fun e w'=>e=.returned (.bool true)/\Below u.heap.size u w')(k3:∀ u,Below w.heap.size w u->Calls Tryd.prog 28 #[.agg #[a0,a1]] u fun e w'=>e=.returned (.bool true)/\Below u.heap.size u w'):
 Calls Tryd.prog 24 #[.agg #[a0,a1],.slice (some ⟨g,0,none⟩) 4 4] w fun e w'=>e=.returned (.bool true)/\Below w.heap.size w w':=by
 obtain⟨W1,hW1⟩:∃ W1,w.alloc (.cells #[a0,a1] 76)=W1:=⟨_,rfl⟩
 have hb1:Below w.heap.size w W1:=by rw [<-hW1];exact(Below.refl _ _).alloc (Nat.le_refl _) _
 have hx1:BlkIs W1 w.heap.size 76 #[a0,a1]:=by rw [<-hW1];exact BlkIs.new _ _ _
 have hg:=World.block_lt_of_cell? w _ h0;have HG:=zd hg;have HFC:=zd (show w.cell? ⟨g,0,none⟩=some (.func (.func 25) #[] #[])/\w.cell? ⟨g,1,none⟩=some (.func (.func 26) #[] #[])/\w.cell? ⟨g,2,none⟩=some (.func (.func 27) #[] #[])/\w.cell? ⟨g,3,none⟩=some (.func (.func 28) #[] #[])from⟨h0,h1,h2,h3⟩);have HK0:=zd k0;have HK1:=zd k1;have HK2:=zd k2;have HK3:=zd k3;have HBX:=zd (fun(u:World) (hu:Below W1.heap.size W1 u)=>hx1.step hu);have HB1:=zd hb1;have HC:=zd (Below.refl W1.heap.size W1);have hcw:=(HB1.out.trans (HC.out.mono HB1.out.size));have f0:=(hcw.cell (p:=⟨g,0,none⟩) HG.out).trans HFC.out.1;have f1:=(hcw.cell (p:=⟨g,1,none⟩) HG.out).trans HFC.out.2.1;have f2:=(hcw.cell (p:=⟨g,2,none⟩) HG.out).trans HFC.out.2.2.1;have f3:=(hcw.cell (p:=⟨g,3,none⟩) HG.out).trans HFC.out.2.2.2;have hbb:=HBX.out W1 HC.out;have d0:=hbb.cell 0;have d1:=hbb.cell 1;clear hbb;clear hcw;clear h0 k0 h1 k1 h2 k2 h3 k3 hx1 hb1 hg
 go_enter Tryd.func24,Tryd.ntmps24
 go_wp2;refine xzab 6 ?_
 go_wp2_with(first
  |(refine xzae ?_;intro _ _)
  |(go_at_call 25;refine(HK0.out _ (HB1.out.trans (HC.out.mono HB1.out.size))).mono ?_;rintro e w2 ⟨rfl,hbn⟩;have HC':=zd (HC.out.trans (hbn.mono HC.out.size));clear f0 f1 f2 f3 d0 d1 hbn HC;have HC:=HC';clear HC';have hcw:=(HB1.out.trans (HC.out.mono HB1.out.size));have f0:=(hcw.cell (p:=⟨g,0,none⟩) HG.out).trans HFC.out.1;have f1:=(hcw.cell (p:=⟨g,1,none⟩) HG.out).trans HFC.out.2.1;have f2:=(hcw.cell (p:=⟨g,2,none⟩) HG.out).trans HFC.out.2.2.1;have f3:=(hcw.cell (p:=⟨g,3,none⟩) HG.out).trans HFC.out.2.2.2;have hbb:=HBX.out w2 HC.out;have d0:=hbb.cell 0;have d1:=hbb.cell 1;clear hbb;clear hcw)
  |(go_at_call 26;refine(HK1.out _ (HB1.out.trans (HC.out.mono HB1.out.size))).mono ?_;rintro e w3 ⟨rfl,hbn⟩;have HC':=zd (HC.out.trans (hbn.mono HC.out.size));clear f0 f1 f2 f3 d0 d1 hbn HC;have HC:=HC';clear HC';have hcw:=(HB1.out.trans (HC.out.mono HB1.out.size));have f0:=(hcw.cell (p:=⟨g,0,none⟩) HG.out).trans HFC.out.1;have f1:=(hcw.cell (p:=⟨g,1,none⟩) HG.out).trans HFC.out.2.1;have f2:=(hcw.cell (p:=⟨g,2,none⟩) HG.out).trans HFC.out.2.2.1;have f3:=(hcw.cell (p:=⟨g,3,none⟩) HG.out).trans HFC.out.2.2.2;have hbb:=HBX.out w3 HC.out;have d0:=hbb.cell 0;have d1:=hbb.cell 1;clear hbb;clear hcw)
  |(go_at_call 27;refine(HK2.out _ (HB1.out.trans (HC.out.mono HB1.out.size))).mono ?_;rintro e w4 ⟨rfl,hbn⟩;have HC':=zd (HC.out.trans (hbn.mono HC.out.size));clear f0 f1 f2 f3 d0 d1 hbn HC;have HC:=HC';clear HC';have hcw:=(HB1.out.trans (HC.out.mono HB1.out.size));have f0:=(hcw.cell (p:=⟨g,0,none⟩) HG.out).trans HFC.out.1;have f1:=(hcw.cell (p:=⟨g,1,none⟩) HG.out).trans HFC.out.2.1;have f2:=(hcw.cell (p:=⟨g,2,none⟩) HG.out).trans HFC.out.2.2.1;have f3:=(hcw.cell (p:=⟨g,3,none⟩) HG.out).trans HFC.out.2.2.2;have hbb:=HBX.out w4 HC.out;have d0:=hbb.cell 0;have d1:=hbb.cell 1;clear hbb;clear hcw)
  |(go_at_call 28;refine(HK3.out _ (HB1.out.trans (HC.out.mono HB1.out.size))).mono ?_;rintro e w5 ⟨rfl,hbn⟩;have HC':=zd (HC.out.trans (hbn.mono HC.out.size));clear f0 f1 f2 f3 d0 d1 hbn HC;have HC:=HC';clear HC';have hcw:=(HB1.out.trans (HC.out.mono HB1.out.size));have f0:=(hcw.cell (p:=⟨g,0,none⟩) HG.out).trans HFC.out.1;have f1:=(hcw.cell (p:=⟨g,1,none⟩) HG.out).trans HFC.out.2.1;have f2:=(hcw.cell (p:=⟨g,2,none⟩) HG.out).trans HFC.out.2.2.1;have f3:=(hcw.cell (p:=⟨g,3,none⟩) HG.out).trans HFC.out.2.2.2;have hbb:=HBX.out w5 HC.out;have d0:=hbb.cell 0;have d1:=hbb.cell 1;clear hbb;clear hcw))
 go_ret;exact⟨rfl,HB1.out.trans (HC.out.mono HB1.out.size)⟩
set_option maxRecDepth 100000 in
set_option maxHeartbeats 4000000 in
theorem is_mode (a0 a1 a2 a3:Value)(g:Nat)(w:World)(h0:w.cell? ⟨g,0,none⟩=some (.func (.func 39) #[] #[]))(h1:w.cell? ⟨g,1,none⟩=some (.func (.func 40) #[] #[]))(h2:w.cell? ⟨g,2,none⟩=some (.func (.func 41) #[] #[]))(k0:∀ u,Below w.heap.size w u->Calls Tryd.prog 39 #[.agg #[a0,a1,a2,a3]] u fun e w'=>e=.returned (.bool true)/\Below u.heap.size u w')(k1:∀ u,Below w.heap.size w u->Calls Tryd.prog 40 #[.agg #[a0,a1,a2,a3]] u fun e w'=>e=.returned (.bool true)/\Below u.heap.size u w')(k2:∀ u,Below w.heap.size w u->Calls Tryd.prog 41 #[.agg #[a0,a1,a2,a3]] u fun e w'=>e=.returned (.bool true)/\Below u.heap.size u w'):
 Calls Tryd.prog 38 #[.agg #[a0,a1,a2,a3],.slice (some ⟨g,0,none⟩) 3 3] w fun e w'=>e=.returned (.bool true)/\Below w.heap.size w w':=by
 obtain⟨W1,hW1⟩:∃ W1,w.alloc (.cells #[a0,a1,a2,a3] 94)=W1:=⟨_,rfl⟩
 have hb1:Below w.heap.size w W1:=by rw [<-hW1];exact(Below.refl _ _).alloc (Nat.le_refl _) _
 have hx1:BlkIs W1 w.heap.size 94 #[a0,a1,a2,a3]:=by rw [<-hW1];exact BlkIs.new _ _ _
 have hg:=World.block_lt_of_cell? w _ h0;have HG:=zd hg;have HFC:=zd (show w.cell? ⟨g,0,none⟩=some (.func (.func 39) #[] #[])/\w.cell? ⟨g,1,none⟩=some (.func (.func 40) #[] #[])/\w.cell? ⟨g,2,none⟩=some (.func (.func 41) #[] #[])from⟨h0,h1,h2⟩);have HK0:=zd k0;have HK1:=zd k1;have HK2:=zd k2;have HBX:=zd (fun(u:World) (hu:Below W1.heap.size W1 u)=>hx1.step hu);have HB1:=zd hb1;have HC:=zd (Below.refl W1.heap.size W1);have hcw:=(HB1.out.trans (HC.out.mono HB1.out.size));have f0:=(hcw.cell (p:=⟨g,0,none⟩) HG.out).trans HFC.out.1;have f1:=(hcw.cell (p:=⟨g,1,none⟩) HG.out).trans HFC.out.2.1;have f2:=(hcw.cell (p:=⟨g,2,none⟩) HG.out).trans HFC.out.2.2;have hbb:=HBX.out W1 HC.out;have d0:=hbb.cell 0;have d1:=hbb.cell 1;have d2:=hbb.cell 2;have d3:=hbb.cell 3;clear hbb;clear hcw;clear h0 k0 h1 k1 h2 k2 hx1 hb1 hg
 go_enter Tryd.func38,Tryd.ntmps38
 go_wp2;refine xzab 5 ?_
 go_wp2_with(first
  |(refine xzae ?_;intro _ _)
  |(go_at_call 39;refine(HK0.out _ (HB1.out.trans (HC.out.mono HB1.out.size))).mono ?_;rintro e w2 ⟨rfl,hbn⟩;have HC':=zd (HC.out.trans (hbn.mono HC.out.size));clear f0 f1 f2 d0 d1 d2 d3 hbn HC;have HC:=HC';clear HC';have hcw:=(HB1.out.trans (HC.out.mono HB1.out.size));have f0:=(hcw.cell (p:=⟨g,0,none⟩) HG.out).trans HFC.out.1;have f1:=(hcw.cell (p:=⟨g,1,none⟩) HG.out).trans HFC.out.2.1;have f2:=(hcw.cell (p:=⟨g,2,none⟩) HG.out).trans HFC.out.2.2;have hbb:=HBX.out w2 HC.out;have d0:=hbb.cell 0;have d1:=hbb.cell 1;have d2:=hbb.cell 2;have d3:=hbb.cell 3;clear hbb;clear hcw)
  |(go_at_call 40;refine(HK1.out _ (HB1.out.trans (HC.out.mono HB1.out.size))).mono ?_;rintro e w3 ⟨rfl,hbn⟩;have HC':=zd (HC.out.trans (hbn.mono HC.out.size));clear f0 f1 f2 d0 d1 d2 d3 hbn HC;have HC:=HC';clear HC';have hcw:=(HB1.out.trans (HC.out.mono HB1.out.size));have f0:=(hcw.cell (p:=⟨g,0,none⟩) HG.out).trans HFC.out.1;have f1:=(hcw.cell (p:=⟨g,1,none⟩) HG.out).trans HFC.out.2.1;have f2:=(hcw.cell (p:=⟨g,2,none⟩) HG.out).trans HFC.out.2.2;have hbb:=HBX.out w3 HC.out;have d0:=hbb.cell 0;have d1:=hbb.cell 1;have d2:=hbb.cell 2;have d3:=hbb.cell 3;clear hbb;clear hcw)
  |(go_at_call 41;refine(HK2.out _ (HB1.out.trans (HC.out.mono HB1.out.size))).mono ?_;rintro e w4 ⟨rfl,hbn⟩;have HC':=zd (HC.out.trans (hbn.mono HC.out.size));clear f0 f1 f2 d0 d1 d2 d3 hbn HC;have HC:=HC';clear HC';have hcw:=(HB1.out.trans (HC.out.mono HB1.out.size));have f0:=(hcw.cell (p:=⟨g,0,none⟩) HG.out).trans HFC.out.1;have f1:=(hcw.cell (p:=⟨g,1,none⟩) HG.out).trans HFC.out.2.1;have f2:=(hcw.cell (p:=⟨g,2,none⟩) HG.out).trans HFC.out.2.2;have hbb:=HBX.out w4 HC.out;have d0:=hbb.cell 0;have d1:=hbb.cell 1;have d2:=hbb.cell 2;have d3:=hbb.cell 3;clear hbb;clear hcw))
 go_ret;exact⟨rfl,HB1.out.trans (HC.out.mono HB1.out.size)⟩
set_option maxRecDepth 100000 in
set_option maxHeartbeats 4000000 in
theorem is_rule (cs:Array Value)(hcs:cs.size=25)(g:Nat)(w:World)(h0:w.cell? ⟨g,0,none⟩=some (.func (.func 51) #[] #[]))(h1:w.cell? ⟨g,1,none⟩=some (.func (.func 52) #[] #[]))(h2:w.cell? ⟨g,2,none⟩=some (.func (.func 53) #[] #[]))(k0:∀ u,Below w.heap.size w u->Calls Tryd.prog 51 #[.agg cs] u fun e w'=>e=.returned (.bool true)/\Below u.heap.size u w')(k1:∀ u,Below w.heap.size w u->Calls Tryd.prog 52 #[.agg cs] u fun e w'=>e=.returned (.bool true)/\Below u.heap.size u w')(k2:∀ u,Below w.heap.size w u->Calls Tryd.prog 53 #[.agg cs] u fun e w'=>e=.returned (.bool true)/\Below u.heap.size u w'):
 Calls Tryd.prog 50 #[.agg cs,.slice (some ⟨g,0,none⟩) 3 3] w fun e w'=>e=.returned (.bool true)/\Below w.heap.size w w':=by
 obtain⟨W1,hW1⟩:∃ W1,w.alloc (.cells cs 106)=W1:=⟨_,rfl⟩
 have hb1:Below w.heap.size w W1:=by rw [<-hW1];exact(Below.refl _ _).alloc (Nat.le_refl _) _
 have hx1:BlkIs W1 w.heap.size 106 cs:=by rw [<-hW1];exact BlkIs.new _ _ _
 have hg:=World.block_lt_of_cell? w _ h0;have HG:=zd hg;have HFC:=zd (show w.cell? ⟨g,0,none⟩=some (.func (.func 51) #[] #[])/\w.cell? ⟨g,1,none⟩=some (.func (.func 52) #[] #[])/\w.cell? ⟨g,2,none⟩=some (.func (.func 53) #[] #[])from⟨h0,h1,h2⟩);have HK0:=zd k0;have HK1:=zd k1;have HK2:=zd k2;have HBX:=zd (fun(u:World) (hu:Below W1.heap.size W1 u)=>hx1.step hu);have HB1:=zd hb1;have HC:=zd (Below.refl W1.heap.size W1);have hcw:=(HB1.out.trans (HC.out.mono HB1.out.size));have f0:=(hcw.cell (p:=⟨g,0,none⟩) HG.out).trans HFC.out.1;have f1:=(hcw.cell (p:=⟨g,1,none⟩) HG.out).trans HFC.out.2.1;have f2:=(hcw.cell (p:=⟨g,2,none⟩) HG.out).trans HFC.out.2.2;have HBB:=zd (HBX.out W1 HC.out);clear hcw;clear h0 k0 h1 k1 h2 k2 hx1 hb1 hg
 go_enter Tryd.func50,Tryd.ntmps50
 go_wp2;refine xzab 5 ?_
 go_wp2_with(first
  |(refine xzae ?_;intro _ _)
  |((with_reducible refine xzdx rfl (.tmp 2) ?_ ?_ HBB.out hcs ?_);exact rfl;exact rfl)
  |(go_at_call 51;refine(HK0.out _ (HB1.out.trans (HC.out.mono HB1.out.size))).mono ?_;rintro e w2 ⟨rfl,hbn⟩;have HC':=zd (HC.out.trans (hbn.mono HC.out.size));clear f0 f1 f2 HBB hbn HC;have HC:=HC';clear HC';have hcw:=(HB1.out.trans (HC.out.mono HB1.out.size));have f0:=(hcw.cell (p:=⟨g,0,none⟩) HG.out).trans HFC.out.1;have f1:=(hcw.cell (p:=⟨g,1,none⟩) HG.out).trans HFC.out.2.1;have f2:=(hcw.cell (p:=⟨g,2,none⟩) HG.out).trans HFC.out.2.2;have HBB:=zd (HBX.out w2 HC.out);clear hcw)
  |(go_at_call 52;refine(HK1.out _ (HB1.out.trans (HC.out.mono HB1.out.size))).mono ?_;rintro e w3 ⟨rfl,hbn⟩;have HC':=zd (HC.out.trans (hbn.mono HC.out.size));clear f0 f1 f2 HBB hbn HC;have HC:=HC';clear HC';have hcw:=(HB1.out.trans (HC.out.mono HB1.out.size));have f0:=(hcw.cell (p:=⟨g,0,none⟩) HG.out).trans HFC.out.1;have f1:=(hcw.cell (p:=⟨g,1,none⟩) HG.out).trans HFC.out.2.1;have f2:=(hcw.cell (p:=⟨g,2,none⟩) HG.out).trans HFC.out.2.2;have HBB:=zd (HBX.out w3 HC.out);clear hcw)
  |(go_at_call 53;refine(HK2.out _ (HB1.out.trans (HC.out.mono HB1.out.size))).mono ?_;rintro e w4 ⟨rfl,hbn⟩;have HC':=zd (HC.out.trans (hbn.mono HC.out.size));clear f0 f1 f2 HBB hbn HC;have HC:=HC';clear HC';have hcw:=(HB1.out.trans (HC.out.mono HB1.out.size));have f0:=(hcw.cell (p:=⟨g,0,none⟩) HG.out).trans HFC.out.1;have f1:=(hcw.cell (p:=⟨g,1,none⟩) HG.out).trans HFC.out.2.1;have f2:=(hcw.cell (p:=⟨g,2,none⟩) HG.out).trans HFC.out.2.2;have HBB:=zd (HBX.out w4 HC.out);clear hcw))
 go_ret;exact⟨rfl,HB1.out.trans (HC.out.mono HB1.out.size)⟩
set_option maxRecDepth 100000 in
set_option maxHeartbeats 4000000 in
theorem is_next (a0 a1 a2 a3 a4 a5:Value)(g:Nat)(w:World)(h0:w.cell? ⟨g,0,none⟩=some (.func (.func 61) #[] #[]))(h1:w.cell? ⟨g,1,none⟩=some (.func (.func 62) #[] #[]))(h2:w.cell? ⟨g,2,none⟩=some (.func (.func 63) #[] #[]))(k0:∀ u,Below w.heap.size w u->Calls Tryd.prog 61 #[.agg #[a0,a1,a2,a3,a4,a5]] u fun e w'=>e=.returned (.bool true)/\Below u.heap.size u w')(k1:∀ u,Below w.heap.size w u->Calls Tryd.prog 62 #[.agg #[a0,a1,a2,a3,a4,a5]] u fun e w'=>e=.returned (.bool true)/\Below u.heap.size u w')(k2:∀ u,Below w.heap.size w u->Calls Tryd.prog 63 #[.agg #[a0,a1,a2,a3,a4,a5]] u fun e w'=>e=.returned (.bool true)/\Below u.heap.size u w'):
 Calls Tryd.prog 60 #[.agg #[a0,a1,a2,a3,a4,a5],.slice (some ⟨g,0,none⟩) 3 3] w fun e w'=>e=.returned (.bool true)/\Below w.heap.size w w':=by
 obtain⟨W1,hW1⟩:∃ W1,w.alloc (.cells #[a0,a1,a2,a3,a4,a5] 117)=W1:=⟨_,rfl⟩
 have hb1:Below w.heap.size w W1:=by rw [<-hW1];exact(Below.refl _ _).alloc (Nat.le_refl _) _
 have hx1:BlkIs W1 w.heap.size 117 #[a0,a1,a2,a3,a4,a5]:=by rw [<-hW1];exact BlkIs.new _ _ _
 have hg:=World.block_lt_of_cell? w _ h0;have HG:=zd hg;have HFC:=zd (show w.cell? ⟨g,0,none⟩=some (.func (.func 61) #[] #[])/\w.cell? ⟨g,1,none⟩=some (.func (.func 62) #[] #[])/\w.cell? ⟨g,2,none⟩=some (.func (.func 63) #[] #[])from⟨h0,h1,h2⟩);have HK0:=zd k0;have HK1:=zd k1;have HK2:=zd k2;have HBX:=zd (fun(u:World) (hu:Below W1.heap.size W1 u)=>hx1.step hu);have HB1:=zd hb1;have HC:=zd (Below.refl W1.heap.size W1);have hcw:=(HB1.out.trans (HC.out.mono HB1.out.size));have f0:=(hcw.cell (p:=⟨g,0,none⟩) HG.out).trans HFC.out.1;have f1:=(hcw.cell (p:=⟨g,1,none⟩) HG.out).trans HFC.out.2.1;have f2:=(hcw.cell (p:=⟨g,2,none⟩) HG.out).trans HFC.out.2.2;have hbb:=HBX.out W1 HC.out;have d0:=hbb.cell 0;have d1:=hbb.cell 1;have d2:=hbb.cell 2;have d3:=hbb.cell 3;have d4:=hbb.cell 4;have d5:=hbb.cell 5;clear hbb;clear hcw;clear h0 k0 h1 k1 h2 k2 hx1 hb1 hg
 go_enter Tryd.func60,Tryd.ntmps60
 go_wp2;refine xzab 5 ?_
 go_wp2_with(first
  |(refine xzae ?_;intro _ _)
  |(go_at_call 61;refine(HK0.out _ (HB1.out.trans (HC.out.mono HB1.out.size))).mono ?_;rintro e w2 ⟨rfl,hbn⟩;have HC':=zd (HC.out.trans (hbn.mono HC.out.size));clear f0 f1 f2 d0 d1 d2 d3 d4 d5 hbn HC;have HC:=HC';clear HC';have hcw:=(HB1.out.trans (HC.out.mono HB1.out.size));have f0:=(hcw.cell (p:=⟨g,0,none⟩) HG.out).trans HFC.out.1;have f1:=(hcw.cell (p:=⟨g,1,none⟩) HG.out).trans HFC.out.2.1;have f2:=(hcw.cell (p:=⟨g,2,none⟩) HG.out).trans HFC.out.2.2;have hbb:=HBX.out w2 HC.out;have d0:=hbb.cell 0;have d1:=hbb.cell 1;have d2:=hbb.cell 2;have d3:=hbb.cell 3;have d4:=hbb.cell 4;have d5:=hbb.cell 5;clear hbb;clear hcw)
  |(go_at_call 62;refine(HK1.out _ (HB1.out.trans (HC.out.mono HB1.out.size))).mono ?_;rintro e w3 ⟨rfl,hbn⟩;have HC':=zd (HC.out.trans (hbn.mono HC.out.size));clear f0 f1 f2 d0 d1 d2 d3 d4 d5 hbn HC;have HC:=HC';clear HC';have hcw:=(HB1.out.trans (HC.out.mono HB1.out.size));have f0:=(hcw.cell (p:=⟨g,0,none⟩) HG.out).trans HFC.out.1;have f1:=(hcw.cell (p:=⟨g,1,none⟩) HG.out).trans HFC.out.2.1;have f2:=(hcw.cell (p:=⟨g,2,none⟩) HG.out).trans HFC.out.2.2;have hbb:=HBX.out w3 HC.out;have d0:=hbb.cell 0;have d1:=hbb.cell 1;have d2:=hbb.cell 2;have d3:=hbb.cell 3;have d4:=hbb.cell 4;have d5:=hbb.cell 5;clear hbb;clear hcw)
  |(go_at_call 63;refine(HK2.out _ (HB1.out.trans (HC.out.mono HB1.out.size))).mono ?_;rintro e w4 ⟨rfl,hbn⟩;have HC':=zd (HC.out.trans (hbn.mono HC.out.size));clear f0 f1 f2 d0 d1 d2 d3 d4 d5 hbn HC;have HC:=HC';clear HC';have hcw:=(HB1.out.trans (HC.out.mono HB1.out.size));have f0:=(hcw.cell (p:=⟨g,0,none⟩) HG.out).trans HFC.out.1;have f1:=(hcw.cell (p:=⟨g,1,none⟩) HG.out).trans HFC.out.2.1;have f2:=(hcw.cell (p:=⟨g,2,none⟩) HG.out).trans HFC.out.2.2;have hbb:=HBX.out w4 HC.out;have d0:=hbb.cell 0;have d1:=hbb.cell 1;have d2:=hbb.cell 2;have d3:=hbb.cell 3;have d4:=hbb.cell 4;have d5:=hbb.cell 5;clear hbb;clear hcw))
 go_ret;exact⟨rfl,HB1.out.trans (HC.out.mono HB1.out.size)⟩
end
section
open Go.RowKit
def dg1 (c:Nat):Int:=if 48<=c/\c<=57 then(c:Int) - 48 else if 97<=c/\c<=102 then(c:Int) - 87 else if 65<=c/\c<=70 then(c:Int) - 55 else -1
def dig (c b:Nat):Int:=if dg1 c<(b:Int)then dg1 c else -1
def isB (x:Int):Prop:=x=10\/x=16
instance (x:Int):Decidable (isB x):=by unfold isB;exact inferInstance
set_option maxHeartbeats 2000000 in
theorem xzdy (c b:Nat)(hc:c<256)(hb:b=10\/b=16)(w:World):Calls Tryd.prog 23 #[.int .u8 c,.int .i64 b] w fun e w'=>e=.returned (.int .i64 (dig c b))/\w'=w:=by
 have hk:IntKind.i64.wrap (c:Int)=(c:Int):=by rw [IntKind.wrap_i64];omega
 have b1:((b:Int)==10)=decide (b=10):=by rcases hb with rfl|rfl<;>rfl
 have b2:b≠10->((b:Int)==16)=true:=by rcases hb with rfl|rfl<;>simp
 unfold dig dg1
 by_cases c3:48<=c/\c<=57
 ·have e4:decide ((c:Int)>=48)=true:=by simp;omega
  have e5:decide ((c:Int)<=57)=true:=by simp;omega
  have k4:IntKind.i64.wrap ((c:Int) - 48)=(c:Int) - 48:=by rw [IntKind.wrap_i64];omega
  have e6:decide ((c:Int) - 48>=10)=false:=by simp;omega
  have e7:decide ((c:Int) - 48>=16)=false:=by simp;omega
  rw [if_pos c3]
  rcases hb with rfl|rfl<;>
  ·go_enter Tryd.func23,Tryd.ntmps23
   go_wp2
   all_goals first
    |(go_ret;refine⟨?_,rfl⟩;first|rfl|(rw [if_pos (by omega)];rfl)|(rw [if_neg (by omega)];rfl))
    |(exfalso;simp at*;omega)
 ·rw [if_neg c3]
  by_cases c1:97<=c/\c<=102
  ·have k4:IntKind.i64.wrap ((c:Int) - 87)=(c:Int) - 87:=by rw [IntKind.wrap_i64];omega
   rw [if_pos c1]
   rcases hb with rfl|rfl<;>
   ·go_enter Tryd.func23,Tryd.ntmps23
    go_wp2
    all_goals first
     |(go_ret;refine⟨?_,rfl⟩;first|rfl|(rw [if_pos (by omega)];rfl)|(rw [if_neg (by omega)];rfl))
     |(exfalso;simp at*;omega)
  ·rw [if_neg c1]
   by_cases c2:65<=c/\c<=70
   ·have k4:IntKind.i64.wrap ((c:Int) - 55)=(c:Int) - 55:=by rw [IntKind.wrap_i64];omega
    rw [if_pos c2]
    rcases hb with rfl|rfl<;>
    ·go_enter Tryd.func23,Tryd.ntmps23
     go_wp2
     all_goals first
      |(go_ret;refine⟨?_,rfl⟩;first|rfl|(rw [if_pos (by omega)];rfl)|(rw [if_neg (by omega)];rfl))
      |(exfalso;simp at*;omega)
   ·rw [if_neg c2]
    rcases hb with rfl|rfl<;>
    ·go_enter Tryd.func23,Tryd.ntmps23
     go_wp2
     all_goals first
      |(go_ret;refine⟨?_,rfl⟩;first|rfl|(rw [if_pos (by omega)];rfl)|(rw [if_neg (by omega)];rfl))
      |(exfalso;simp at*;omega)
end
section
open Go.RowKit
def bt (s:ByteArray)(i:Nat):Nat:=if h:i<s.size then(s[i]'h).toNat else 0
theorem bt_lt (s:ByteArray)(i:Nat):bt s i<256:=by
 unfold bt;split
 ·exact UInt8.toNat_lt _
 ·decide
theorem Below.drewN {B:Nat}{a w:World}(h:Below B a w)(m:Nat):Below B a (w.drewN m):=⟨h.os,h.tape,h.output,h.size,h.block⟩
theorem xzjj (t:TypeId)(ht:(Tryd.prog).underlying t=some .string)(s:ByteArray)(i:Nat)(hi:i<s.size)(w:World):
 (Instr.index t (.string s) (.int .i64 (i:Nat))).run Tryd.prog w=.ok (.int .u8 (bt s i:Nat)) w:=by
 rw [run_index_string w t s .i64 _ ht,dif_pos ⟨by omega,by omega⟩]
 simp [bt,hi]
def letB (b:Nat):Bool:=decide (97<=b)&&decide (b<=122)
def numB (b:Nat):Bool:=decide (48<=b)&&decide (b<=57)
def nameB (l:List UInt8):Bool:=decide (l≠[])&&(decide (l.length<=24)&&(letB ((l.headD 0).toNat)&&l.all fun c=>letB c.toNat||numB c.toNat))
theorem xzce (b:Nat)(hb:b<256)(w:World):Calls Tryd.prog 57 #[.int .u8 b] w fun e w'=>e=.returned (.bool (letB b))/\w'=w:=by
 unfold letB
 by_cases h1:97<=b
 ·have e1:decide ((97:Int)<=(b:Int))=true:=by simp;omega
  have e2:decide (97<=b)=true:=by simpa using h1
  go_enter Tryd.func57,Tryd.ntmps57
  go_wp2;go_ret
  simp [h1];omega
 ·have e1:decide ((97:Int)<=(b:Int))=false:=by simp;omega
  have e2:decide (97<=b)=false:=by simpa using h1
  go_enter Tryd.func57,Tryd.ntmps57
  go_wp2;go_ret
  simp [e2]
theorem xzgb (b:Nat)(hb:b<256)(w:World):Calls Tryd.prog 58 #[.int .u8 b] w fun e w'=>e=.returned (.bool (numB b))/\w'=w:=by
 unfold numB
 by_cases h1:48<=b
 ·have e1:decide ((48:Int)<=(b:Int))=true:=by simp;omega
  have e2:decide (48<=b)=true:=by simpa using h1
  go_enter Tryd.func58,Tryd.ntmps58
  go_wp2;go_ret
  simp [h1];omega
 ·have e1:decide ((48:Int)<=(b:Int))=false:=by simp;omega
  have e2:decide (48<=b)=false:=by simpa using h1
  go_enter Tryd.func58,Tryd.ntmps58
  go_wp2;go_ret
  simp [e2]
theorem xzaf (s:ByteArray):s.data.toList.length=s.size:=by rw [Array.length_toList];rfl
theorem xzdz (s:ByteArray)(i:Nat)(h:i<s.size):bt s i=((s.data.toList[i]'(by rw [xzaf];exact h)).toNat):=by
 unfold bt;rw [dif_pos h];rfl
theorem xzhw (s:ByteArray)(w:World)(cap:Nat)(e:TypeId)(z:Nat×Nat)(j:Nat)(h:j<s.size):(w.alloc (.cells (bytesRow s cap) e z)).cell? ⟨w.heap.size,j,none⟩=some (.int .u8 (bt s j:Nat)):=by
 rw [cell_of_row (w.alloc (.cells (bytesRow s cap) e z)) w.heap.size j (bytesRow s cap) e z (by show(w.heap.push _)[w.heap.size]? =_;simp)];unfold bytesRow;have h':j<s.data.size:=h;rw [Array.getElem?_append_left (by rw [Array.size_map];exact h'),Array.getElem?_map,Array.getElem?_eq_getElem h'];unfold bt;rw [dif_pos h];rfl
def okTo (s:ByteArray)(j:Nat):Bool:=(s.data.toList.take j).all fun c=>letB c.toNat||numB c.toNat
theorem xzjk (s:ByteArray)(j:Nat)(h:j<s.size):okTo s (j+1)=(okTo s j&&(letB (bt s j)||numB (bt s j))):=by
 unfold okTo;rw [xzdz s j h,<-List.take_append_getElem (l:=s.data.toList) (i:=j) (by rw [xzaf];exact h),List.all_append,List.all_cons,List.all_nil,Bool.and_true]
theorem xzhx (s:ByteArray):okTo s s.size=s.data.toList.all fun c=>letB c.toNat||numB c.toNat:=by
 unfold okTo;rw [<-xzaf,List.take_length]
theorem xzlu (s:ByteArray)(j:Nat)(h:j<s.size)(h1:letB (bt s j)=false)(h2:numB (bt s j)=false):okTo s s.size=false:=by
 rw [xzhx,List.all_eq_false];refine⟨s.data.toList[j]'(by rw [xzaf];exact h),List.getElem_mem _,?_⟩;rw [<-xzdz s j h,h1,h2];decide
set_option maxHeartbeats 1000000 in
theorem xzgc (s:ByteArray)(w:World):Calls Tryd.prog 47 #[.string s] w fun e w'=>e=.returned (.bool (nameB s.data.toList))/\Below w.heap.size w w':=by
 have hl:=xzaf s
 by_cases h0:s.size=0
 ·obtain rfl:s=⟨#[]⟩:=by
   cases s with|mk d=>have:d.size=0:=h0;rw [Array.eq_empty_of_size_eq_zero this]
  go_enter Tryd.func47,Tryd.ntmps47
  go_wp2;go_ret;exact⟨rfl,Below.refl _ _⟩
 have hne:s.data.toList≠[]:=by intro e;rw [e]at hl;simp at hl;omega
 have e0:s.toList.isEmpty=false:=by
  rw [Lib.toList_data]
  cases hc:s.data.toList with
  |nil=>exact absurd hc hne
  |cons a r=>rfl
 by_cases h1:24<s.size
 ·have hn:nameB s.data.toList=false:=by
   unfold nameB;rw [hl,decide_eq_false (by omega: ¬ s.size<=24)];simp
  have e1:decide (24<(s.size:Int))=true:=by simp;omega
  rw [hn]
  go_enter Tryd.func47,Tryd.ntmps47
  go_wp2;go_ret;exact⟨rfl,Below.refl _ _⟩
 have e1:decide (24<(s.size:Int))=false:=by simp;omega
 have hp0:0<s.size:=by omega
 have hix:∀ w,(Instr.index 9 (.string s) (.int .i64 0)).run Tryd.prog w=.ok (.int .u8 (bt s 0:Nat)) w:=fun w=>xzjj 9 Tryd.underlying9 s 0 hp0 w
 have hb0:=xzdz s 0 hp0
 have hhd:s.data.toList.headD 0=s.data.toList[0]'(by rw [hl];exact hp0):=by
  rw [List.headD_eq_head?_getD,List.head?_eq_getElem?,List.getElem?_eq_getElem (by rw [hl];exact hp0)];rfl
 have hn:nameB s.data.toList=(letB (bt s 0)&&okTo s s.size):=by
  unfold nameB;rw [xzhx,hhd,<-hb0,hl,decide_eq_true hne,decide_eq_true (by omega:s.size<=24)]
  simp
 have hL:=fun w=>xzce (bt s 0) (bt_lt s 0) w
 by_cases h2:letB (bt s 0)=true
 ·rw [hn,h2,Bool.true_and]
  rw [h2]at hL;have hcv:=run_bytes_of_string (P:=Tryd.prog) w 9 49 5 s Tryd.underlying9 Tryd.underlying49 Tryd.underlying5;have hcap:s.size<=grownCap w s.size 0 5:=grownCap_ge w s.size 0 _;generalize grownCap w s.size 0 5=cap at hcv hcap
  have hcell:=fun j h=>xzhw s w.drew cap 5 ((bytesRow s cap).size,(bytesRow s cap).size+1) j h
  have hbel:Below w.heap.size w (w.drew.alloc (.cells (bytesRow s cap) 5 ((bytesRow s cap).size,(bytesRow s cap).size+1))):=(Go.Proofs.YtgjfhbpmahgfcaaDoor.Below.drewN (Below.refl _ w) 1).alloc (Nat.le_refl _) _;have hfr:w.drew.heap.size=w.heap.size:=rfl;rw [hfr]at hcell;generalize w.drew.alloc (.cells (bytesRow s cap) 5 ((bytesRow s cap).size,(bytesRow s cap).size+1))=Wc at hcv hcell hbel;have HC:=zd hcell;have HB:=zd hbel;clear hcell hbel hcap hne hhd hb0 hn hfr
  go_enter Tryd.func47,Tryd.ntmps47
  go_wp2_with(go_at_call 57;refine(hL _).mono ?_;rintro e w' ⟨rfl,rfl⟩)
  go_loopw [21] (fun i wr=>∃ j:Nat,i=.int .i64 j/\j<=s.size/\Hid (wr=Wc/\okTo s j=true)) (fun i _=>s.size - (intOf i).toNat)
  case atStart=>exact⟨0,rfl,Nat.zero_le _,zd ⟨rfl,rfl⟩⟩
  case round=>
   obtain⟨j,rfl,hj,HH⟩:=hrel;obtain⟨rfl,hall⟩:=HH.out
   by_cases hp:j<s.size
   ·have hdl:decide ((j:Int)<(s.size:Int))=true:=by simp;omega
    have hcj:=HC.out j hp
    have hk1:IntKind.i64.wrap ((j:Int)+1)=((j+1:Nat):Int):=by rw [IntKind.wrap_i64];omega
    have hLj:=fun w=>xzce (bt s j) (bt_lt s j) w
    have hDj:=fun w=>xzgb (bt s j) (bt_lt s j) w
    have hsu:=xzjk s j hp;rw [hall,Bool.true_and]at hsu;have HT:=zd hsu;clear hsu hall
    cases h3:letB (bt s j)
    ·rw [h3]at hLj
     cases h4:numB (bt s j)
     ·rw [h4]at hDj
      have hbad:=xzlu s j hp h3 h4
      go_wp2_with(first
       |(go_at_call 57;refine(hLj _).mono ?_;rintro e w1 ⟨rfl,rfl⟩)
       |(go_at_call 58;refine(hDj _).mono ?_;rintro e w2 ⟨rfl,rfl⟩))
      go_ret;exact⟨by rw [hbad];rfl,HB.out⟩
     ·rw [h4]at hDj
      go_wp2_with(first
       |(go_at_call 57;refine(hLj _).mono ?_;rintro e w1 ⟨rfl,rfl⟩)
       |(go_at_call 58;refine(hDj _).mono ?_;rintro e w2 ⟨rfl,rfl⟩))
      refine⟨⟨j+1,by go_num,hp,zd ⟨trivial,?_⟩⟩,by simp [intOf];omega⟩;rw [HT.out,h3,h4];rfl
    ·rw [h3]at hLj
     go_wp2_with(go_at_call 57;refine(hLj _).mono ?_;rintro e w1 ⟨rfl,rfl⟩)
     refine⟨⟨j+1,by go_num,hp,zd ⟨trivial,?_⟩⟩,by simp [intOf];omega⟩;rw [HT.out,h3];rfl
   ·have hdl:decide ((j:Int)<(s.size:Int))=false:=by simp;omega
    obtain rfl:j=s.size:=by omega
    go_wp2;go_ret;exact⟨rfl,HB.out⟩
 ·have h2':letB (bt s 0)=false:=by simpa using h2
  rw [hn,h2',Bool.false_and];rw [h2']at hL;clear hn h2 hhd hb0 hne
  go_enter Tryd.func47,Tryd.ntmps47
  go_wp2_with(go_at_call 57;refine(hL _).mono ?_;rintro e w' ⟨rfl,rfl⟩)
  go_ret;exact⟨rfl,Below.refl _ _⟩
end
section
open Go.RowKit
section
variable {P : Program} (w : World)
theorem xzci (mty kt et:TypeId)(r clock:Nat)(s:ByteArray)(hm:P.underlying mty=some (.map kt et))(hk:P.underlying kt=some .string)(hz:(zeroValue et).run P w=.ok (.bool false) w)(hb:w.heap[r]? =some (.map #[] clock)):
 (Instr.lookup mty (.map (some r)) (.string s) false).run P w=.ok (.bool false) w:=by
 have hf:Instr.findNow .string (.string s) ([]:List MapEntry) 0=some none:=rfl;have hc:(Instr.checkKey true 10000 kt (.string s)).run P w=.ok () w:=MapKept.run_checkKey (k:=.string s) hk (by simp [MapKept.IsKey]) true 9999
 simp [Instr.lookup,run_underlying hm,MapKept.run_getObj_map hb,hc,MapKept.run_findKey hk hf,Result.andThen,hz]
theorem xzbs {ops:Array Oper}{rest:List Oper}{o:Oper}{a:Act}{Q:Exit->Act->World->Prop}(hg:o.guard=none)(m x:Operand)(t:TypeId)(hop:o.op=Op.lookup t m x false){vm vx v:Value}(hm:a.eval m=vm)(hx:a.eval x=vx)
 (hrun:(Instr.lookup t vm vx false).run P w=.ok v w)(hK:wpList P ops Q rest (a.put o.dst v) w):wpList P ops Q (o::rest) a w:=by
 refine wpList_plain hg fun K' hK'=>?_
 unfold Oper.wp
 simp [execOp,hop,hm,hx,hrun,Result.andThen]
 exact hK' _ _ hK
theorem xzbt {ops:Array Oper}{rest:List Oper}{o:Oper}{a:Act}{Q:Exit->Act->World->Prop}{w':World}(hg:o.guard=none)(m x y:Operand)(t:TypeId)(hop:o.op=Op.mapUpdate t m x y){vm vx vy:Value}(hm:a.eval m=vm)(hx:a.eval x=vx)(hy:a.eval y=vy)
 (hrun:(Instr.mapUpdate t vm vx vy).run P w=.ok () w')(hK:wpList P ops Q rest (a.put o.dst undef) w'):wpList P ops Q (o::rest) a w:=by
 refine wpList_plain hg fun K' hK'=>?_
 unfold Oper.wp
 simp [execOp,hop,hm,hx,hy,hrun,Result.andThen]
 exact hK' _ _ hK
end
structure Only (r:Nat)(w w':World):Prop where
 os:w'.os=w.os
 tape:w'.tape=w.tape
 output:w'.output=w.output
 size:w.heap.size<=w'.heap.size
 block:∀ k,k<w.heap.size->k≠r->w'.heap[k]? =w.heap[k]?
theorem Only.blk {r k:Nat}{w w':World}{t:TypeId}{cs:Array Value}(h:Only r w w')(hk:k≠r)(hb:BlkIs w k t cs):BlkIs w' k t cs:=(h.block k hb.lt hk).trans hb
theorem Only.below {r B:Nat}{w0 w w':World}(h:Only r w w')(hb:Below B w0 w)(hB:B<=r)(hs:B<=w0.heap.size):Below B w0 w':=
 ⟨h.os.trans hb.os,h.tape.trans hb.tape,h.output.trans hb.output,Nat.le_trans hb.size h.size,fun k hk=>(h.block k (by have:=hb.size;omega) (by omega)).trans (hb.block k hk)⟩
theorem xzjl (w:World):(zeroValue 4).run Tryd.prog w=.ok (.bool false) w:=by kernel_rfl
set_option maxRecDepth 100000 in
set_option maxHeartbeats 2000000 in
theorem xzct (s:ByteArray)(r:Nat)(w:World)(hr:w.heap[r]? =some (.map #[] 0))(hn:nameB s.data.toList=true):
 Calls Tryd.prog 36 #[.map (some r),.string s] w fun e w'=>e=.returned (.bool true)/\Only r w w':=by
 have hrl:r<w.heap.size:=(Array.getElem?_eq_some_iff.1 hr).1;have h1:=xzci (P:=Tryd.prog) w 91 9 4 r 0 s Tryd.underlying91 Tryd.underlying9 (xzjl w) hr;have hN:=xzgc s w;rw [hn]at hN;have HN:=zd hN;have HR:=zd hr;clear hN hn
 go_enter Tryd.func36,Tryd.ntmps36
 go_wp2_with(first
  |(refine xzbs _ rfl _ _ _ rfl rfl rfl h1 ?_))
 go_at_call 47
 refine HN.out.mono ?_;rintro e u ⟨rfl,hu⟩;have hr2:u.heap[r]? =some (.map #[] 0):=(hu.block r hrl).trans HR.out;have h2:=run_mapUpdate_first (P:=Tryd.prog) u 91 9 4 r 0 s (.bool true) Tryd.underlying91 Tryd.underlying9 hr2
 have HO:=zd (show Only r w {u with heap:=u.heap.setIfInBounds r (.map #[{key:=.string s,val:=.bool true,born:=0}] (0+1))}from
  ⟨hu.os,hu.tape,hu.output,by show w.heap.size<=(u.heap.setIfInBounds r _).size;rw [Array.size_setIfInBounds];exact hu.size,fun k hk hkr=>by
   show(u.heap.setIfInBounds r _)[k]? =_
   rw [Array.getElem?_setIfInBounds_ne (Ne.symm hkr)]
   exact hu.block k hk⟩)
 clear hu h1 hr2
 go_wp2_with(first
  |(refine xzbt _ rfl _ _ _ _ rfl rfl rfl rfl h2 ?_))
 go_ret;exact⟨rfl,HO.out⟩
end
end Go.Proofs.YtgjfhbpmahgfcaaDoor
