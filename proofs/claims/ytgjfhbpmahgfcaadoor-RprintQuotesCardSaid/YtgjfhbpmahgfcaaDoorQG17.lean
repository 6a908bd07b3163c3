/-
 rprint's file AT THE EXAMPLE: a contract. Condition: math/bits' table lies where it lies.
-/
import Derived.Test.YtgjfhbpmahgfcaaDoorQG15
import Derived.Test.YtgjfhbpmahgfcaaDoorQG01
import Derived.Test.YtgjfhbpmahgfcaaDoorQG16
namespace Go.Proofs.YtgjfhbpmahgfcaaDoor
open Go.Shelf Go.RowKit
attribute [local irreducible] FreeW textFrame
theorem xzlt (xs:List ByteArray)(B b:Nat)(L:List UInt8)(many:Bool)(u:World)(h:IsWr B b (Lib.byteCells L) many u)(hn:xs.length<=1048576)(hl:L.length+lenW xs<=1099511627776)(hB:B<=u.heap.size):
 Calls Tryd.prog 29 #[.pointer (some ⟨b,0,none⟩),.slice (some ⟨u.heap.size,0,none⟩) xs.length xs.length] (u.alloc (.cells (xs.map Value.string).toArray 9)) fun e w'=>e=.returned (.tuple #[])/\(IsWr B b (Lib.byteCells (L++wordsL xs++[10])) many w'/\Below B u w'/\KeepT u w'):=by
 have hb:Below u.heap.size u (u.alloc (.cells (xs.map Value.string).toArray 9)):=(Below.refl _ _).alloc (Nat.le_refl _) _;have hx:=BlkIs.new u 9 (xs.map Value.string).toArray;refine(xzhu xs u.heap.size 0 xs.length B b L many _ (h.step hb) (fun j hj=>?_) hx.lt hn hl (by rw [World.size_alloc];omega)).mono ?_
 ·rw [Nat.zero_add,hx.cell j]
  simp [hj]
 ·rintro e w' ⟨rfl,h1,h2,h3⟩
  exact⟨rfl,h1,(hb.mono hB).trans h2,(KeepT.of hb).trans h3⟩
def ruleC (m:Nat->Bool):Array Value:=#[.string ⟨#[120]⟩,.int .i64 1,.int .u64 (wd m 0:Nat),.int .u64 (wd m 1:Nat),.int .u64 (wd m 2:Nat),.int .u64 (wd m 3:Nat),.slice none 0 0,.int .i64 0,.int .i64 0,.int .i64 0,.int .u64 0,
 .int .i64 0,.int .u64 0,.int .u64 0,.int .u64 0,.int .u64 0,.slice none 0 0,.int .i64 0,.int .i64 0,.int .i64 0,.int .i64 0,.int .i64 0,.int .i64 0,.bool false,.string ⟨#[]⟩]
def modeC (gr:Nat):Array Value:=#[.string ⟨#[97]⟩,.bool true,.int .i64 5,.slice (some ⟨gr,0,none⟩) 1 1]
def yT:Tree:=.node 1 (sRange 121 121) [] 0 0
theorem yT_at (W:World):Tree.At W yT (reV 1 (sRange 121 121) none 0 0 0 0):=by
 unfold yT Tree.At;exact⟨none,0,rfl,⟨Nat.le_refl _,by decide⟩,fun h=>absurd rfl h⟩
theorem xzki:textOf yT=⟨#[121]⟩:=by
 have:(textOf yT).data.toList=[121]:=by decide+kernel
 apply ByteArray.ext
 exact Array.toList_inj.1 this
theorem yT_may:yT.mayN=true:=by decide+kernel
def line1:List ByteArray:=[⟨#[109,111,100,101]⟩,⟨#[97]⟩,⟨#[108,105,109,105,116]⟩,⟨#[53]⟩,⟨#[101,110,100]⟩]
def line2:List ByteArray:=[⟨#[114,117,108,101]⟩,⟨#[120]⟩,⟨#[47,121,47]⟩,⟨#[]⟩,⟨#[]⟩,⟨#[45,62]⟩,⟨#[97]⟩]
def exL1:List UInt8:=[109,111,100,101,32,97,32,108,105,109,105,116,32,53,32,101,110,100,10]
def exL2:List UInt8:=[114,117,108,101,32,120,32,47,121,47,32,45,62,32,97,10]
theorem exL1_is:[]++wordsL line1++[10]=exL1:=by decide+kernel
theorem exL2_is:exL1++wordsL line2++[10]=exL1++exL2:=by decide+kernel
theorem digits5:(⟨(Lib.decDigits 5).toArray⟩:ByteArray)=⟨#[53]⟩:=by
 have:Lib.decDigits 5=[53]:=by decide+kernel
 rw [this]
structure ExAt (u:World)(gm gr:Nat):Prop where
 mode:BlkIs u gm 43 (modeC gr)
 rule:BlkIs u gr 40 (ruleC (sRange 121 121))
theorem ExAt.keep {u u':World}{gm gr:Nat}(h:ExAt u gm gr)(hk:KeepT u u'):ExAt u' gm gr:=⟨hk.2 _ _ _ h.mode (by decide) (by decide),hk.2 _ _ _ h.rule (by decide) (by decide)⟩
theorem ExAt.step {u u':World}{gm gr:Nat}(h:ExAt u gm gr)(hb:Below u.heap.size u u'):ExAt u' gm gr:=⟨h.mode.step hb,h.rule.step hb⟩
theorem info25:(Tryd.prog.info? 40).map (·.size)=some 25:=by kernel_rfl
section
variable {ops : Array Oper} {rest : List Oper} {op : Oper} {a : Act} {w : World} {Q : Exit → Act → World → Prop} {g : Nat}
theorem xzbh (hgd:op.guard=none)(x:Operand)(ho:op.op=.load 40 x)(hx:a.eval x=.pointer (some ⟨g,0,none⟩)){t:TypeId}{cs:Array Value}(h:BlkIs w g t cs)(hs:cs.size=25)
 (hK:wpList Tryd.prog ops Q rest (a.put op.dst (.agg cs)) w):wpList Tryd.prog ops Q (op::rest) a w:=
 wpList_load_mid hgd 40 x ho g 0 hx cs.toList _ h.range Tryd.underlying40 rfl (by rw [info25,Array.length_toList,hs]) (by rw [Array.toArray_toList];exact hK)
theorem xzbe (hgd:op.guard=none)(x y:Operand)(ho:op.op=.store 40 x y)(hx:a.eval x=.pointer (some ⟨g,0,none⟩)){t:TypeId}{cs new:Array Value}(hy:a.eval y=.agg new)
 (h:BlkIs w g t cs)(hs:cs.size=25)(hn:new.size=25)(h1:new.all (·.oneCell')=true)
 (hK:∀ w',BlkIs w' g t new->(∀ B w0,B<=g->Below B w0 w->Below B w0 w')->wpList Tryd.prog ops Q rest (a.put op.dst undef) w'):wpList Tryd.prog ops Q (op::rest) a w:=
 wpList_store_mid hgd 40 x y ho g 0 new hx hy (by rw [hn,<-hs];exact h.there) (by rw [info25,hn]) h1 (hK _ (h.fill (by rw [hs,hn])) fun B w0 hB hb=>xzbo g _ 0 _ hB hb)
end
theorem loadR {w:World}{g:Nat}{t:TypeId}{cs:Array Value}(h:BlkIs w g t cs)(hs:cs.size=25):(Instr.loadAt 40 (.pointer (some ⟨g,0,none⟩))).run Tryd.prog w=.ok (.agg cs) w:=by
 have:=run_loadAt_mid (P:=Tryd.prog) w g 0 40 cs.toList _ h.range Tryd.underlying40 rfl (by rw [info25,Array.length_toList,hs])
 rwa [Array.toArray_toList]at this
theorem xzdw {o:Oper}{a:Act}{w:World}{v:Value}(t:TypeId)(x:Operand)(p:Value)(ho:o.op=.load t x)(hx:a.eval x=p)(h:(Instr.loadAt t p).run Tryd.prog w=.ok v w):(execOp a.eval o).run Tryd.prog w=.ok (.value v) w:=by
 unfold execOp;simp only [ho,hx,Sem.run_bind,Sem.run_pure,h,Result.andThen_ok]
theorem xzdc (m:Nat->Bool):(ruleC m).all (·.oneCell')=true:=by simp [ruleC,Value.oneCell']
set_option maxRecDepth 100000 in
set_option maxHeartbeats 8000000 in
theorem file_ex (gm gr B b:Nat)(w:World)(hx:ExAt w gm gr)(h:IsWr B b [] false w)(hB:B<=w.heap.size)(hg:2<B)(hT:Tab w):
 Calls Tryd.prog 17 #[.pointer (some ⟨b,0,none⟩),.agg #[.slice none 0 0,.slice (some ⟨gm,0,none⟩) 1 1]] w fun e w'=>e=.returned (.tuple #[])/\(IsWr B b (Lib.byteCells (exL1++exL2)) false w'/\Below B w w'):=by
 obtain⟨W1,hW1⟩:∃ W1,w.alloc (.cells #[.slice none 0 0,.slice (some ⟨gm,0,none⟩) 1 1] 47)=W1:=⟨_,rfl⟩
 have hb1:Below w.heap.size w W1:=by rw [<-hW1];exact(Below.refl _ _).alloc (Nat.le_refl _) _
 have hf1:BlkIs W1 w.heap.size 47 #[.slice none 0 0,.slice (some ⟨gm,0,none⟩) 1 1]:=by rw [<-hW1];exact BlkIs.new _ _ _
 have HX:=zd (fun(u:World) (hu:Below w.heap.size w u)=>hx.step hu);have HW:=zd (show IsWr B b (Lib.byteCells []) false W1 from h.step hb1);have HF:=zd (fun(u:World) (hu:Below W1.heap.size W1 u)=>hf1.step hu);have HT:=zd (fun(u:World) (hu:Below w.heap.size w u)=>hT.step hu);have HB1:=zd hb1;have HBB:=zd hB;have f0:=hf1.cell 0;have f1:=hf1.cell 1;clear hb1 hf1 hx h hB hT
 go_enter Tryd.func17,Tryd.ntmps17
 go_wp2;refine xzab 2 ?_;refine xzae ?_;intro K1 hK1;go_wp2;refine xzab 3 ?_;refine xzae ?_;intro K2 hK2;have hxm:=HX.out W1 HB1.out;unfold modeC at*;obtain⟨m0,m1,m2,m3⟩:W1.cell? ⟨gm,0,none⟩=some (.string ⟨#[97]⟩)/\W1.cell? ⟨gm,1,none⟩=some (.bool true)/\W1.cell? ⟨gm,2,none⟩=some (.int .i64 5)/\W1.cell? ⟨gm,3,none⟩=some (.slice (some ⟨gr,0,none⟩) 1 1):=⟨hxm.mode.cell 0,hxm.mode.cell 1,hxm.mode.cell 2,hxm.mode.cell 3⟩;obtain⟨W2,hW2⟩:∃ W2,W1.alloc (.cells #[.string ⟨#[97]⟩,.bool true,.int .i64 5,.slice (some ⟨gr,0,none⟩) 1 1] 43)=W2:=⟨_,rfl⟩
 have hb2:Below W1.heap.size W1 W2:=by rw [<-hW2];exact(Below.refl _ _).alloc (Nat.le_refl _) _
 have hx2:BlkIs W2 W1.heap.size 43 #[.string ⟨#[97]⟩,.bool true,.int .i64 5,.slice (some ⟨gr,0,none⟩) 1 1]:=by rw [<-hW2];exact BlkIs.new _ _ _
 have HM:=zd (fun(u:World) (hu:Below W2.heap.size W2 u)=>hx2.step hu);have HB2:=zd hb2;have HW2:=zd (HW.out.step hb2);clear hxm hb2 hx2;have hbw2:Below w.heap.size w W2:=HB1.out.trans (HB2.out.mono HB1.out.size)
 have HL:=zd (show Calls Tryd.prog 29 #[.pointer (some ⟨b,0,none⟩),.slice (some ⟨W2.heap.size,0,none⟩) 5 5] ((W2.alloc (.cells #[.string ⟨#[109,111,100,101]⟩,.string ⟨#[97]⟩,.string ⟨#[108,105,109,105,116]⟩,.string ⟨#[53]⟩,.string ⟨#[101,110,100]⟩] 9)).drew) (fun e w'=>e=.returned (.tuple #[])/\(IsWr B b (Lib.byteCells exL1) false w'/\Below B W2.drew w'/\KeepT W2.drew w'))from by
  have:=xzlt line1 B b [] false W2.drew (HW2.out.step (Below.refl _ _).drew) (by decide) (by decide+kernel) (by have:=hbw2.size;have:=HBB.out;show B<=W2.heap.size;omega);rw [exL1_is]at this
  exact this)
 have hi5:=fun(u:World)=>(strconv_Itoa_small 5 (by decide) u)
 simp only [digits5]at hi5;have HI:=zd hi5;have HE:=zd (fun(u:World)=>xzfz true u);have HBW:=zd hbw2;clear hi5 hbw2
 go_wp2_with fail
 go_region_held3 (fun w'=>w'.cell? ⟨W1.heap.size,0,none⟩=some (.string ⟨#[97]⟩)/\w'.cell? ⟨W1.heap.size,1,none⟩=some (.bool true)/\w'.cell? ⟨W1.heap.size,2,none⟩=some (.int .i64 5))
  ((first
    |exact⟨(HM.out W2 (Below.refl _ _)).drew.cell 0,(HM.out W2 (Below.refl _ _)).drew.cell 1,(HM.out W2 (Below.refl _ _)).drew.cell 2⟩
    |exact⟨((HM.out W2 (Below.refl _ _)).alloc _).drew.cell 0,((HM.out W2 (Below.refl _ _)).alloc _).drew.cell 1,((HM.out W2 (Below.refl _ _)).alloc _).drew.cell 2⟩
    |assumption
    |exact⟨hm4.cell 0,hm4.cell 1,hm4.cell 2⟩
    |go_keep))
  ((first
    |(go_at_call 31;go_must(refine(HI.out _).mono ?_);rintro e wI ⟨rfl,rfl⟩)
    |(go_at_call 32;go_must(refine(HE.out _).mono ?_);rintro e wE ⟨rfl,rfl⟩)
    |(go_at_call 29;go_must(refine HL.out.mono ?_);rintro e w4 ⟨rfl,hw4,hb4,hk4⟩;have hm4:=hk4.2 _ _ _ (HM.out W2 (Below.refl _ _)).drew (by decide) (by decide))))
 have hx4:=((HX.out W2 HBW.out).step (Below.refl _ _).drew).keep hk4;have hf4:=hk4.2 _ _ _ (HF.out W2 HB2.out).drew (by decide) (by decide);have ht4:Tab w4:=(HT.out W2 HBW.out).below ((Below.refl _ _).drew.trans hb4) hg;have HB4:=zd (show Below B w w4 from(HBW.out.mono HBB.out).trans ((Below.refl _ _).drew.trans hb4));have HX4:=zd (And.intro hx4 (And.intro hf4 (And.intro ht4 (And.intro hm4 hw4))));have m3:=hm4.cell 3;clear hk4 hw4 hb4 hx4 hf4 ht4 hm4 HM HW HI HE HL;obtain⟨rc,hrc⟩:∃ rc,ruleC (sRange 121 121)=rc:=⟨_,rfl⟩;have hr4:=HX4.out.1.rule;have h1r:=xzdc (sRange 121 121);have hsr:(ruleC (sRange 121 121)).size=25:=rfl;rw [hrc]at hr4 h1r hsr;have HRC:=zd hrc;clear hrc;go_wp2;refine xzab 3 ?_;refine xzae ?_;intro K3 hK3;have HX4r:=zd hr4
 go_wp2_with(first
  |((with_reducible refine xzbh rfl (.tmp 50) ?_ ?_ HX4r.out hsr ?_);exact rfl;exact rfl)
  |((with_reducible refine xzbe rfl (.tmp 9) (.tmp 51) ?_ ?_ ?_ (BlkIs.new w4 40 _) ?_ hsr h1r ?_);exact rfl;exact rfl;exact rfl;exact rfl;intro W9 hW9 hB9))
 have HBW9:=zd (hB9 w4.heap.size w4 (Nat.le_refl _) ((Below.refl _ _).alloc (Nat.le_refl _) _))
 have hlow:∀ u,Below W9.heap.size W9 u->Below w4.heap.size w4 u:=fun u hu=>HBW9.out.trans (hu.mono HBW9.out.size)
 have HLOW:=zd hlow;have HRR:=zd (fun(u:World) (hu:Below W9.heap.size W9 u)=>hW9.step hu);have hW9':=hW9;rw [<-HRC.out]at hW9';have HR9:=zd (fun(u:World) (hu:Below W9.heap.size W9 u)=>hW9'.step hu);have HSZ:=zd hsr;have HFF:=zd (fun(u:World) (hu:Below W9.heap.size W9 u)=>HX4.out.2.1.step (hlow u hu));have HMM:=zd (fun(u:World) (hu:Below W9.heap.size W9 u)=>HX4.out.1.mode.step (hlow u hu))
 have hwr:∀ u,Below W9.heap.size W9 u->IsWr B b (Lib.byteCells exL1) false u:=fun u hu=>HX4.out.2.2.2.2.step (hlow u hu)
 have HTR:=zd (fun(u:World) (hu:Below W9.heap.size W9 u)=>(show Calls Tryd.prog 30 #[.pointer (some ⟨b,0,none⟩),.agg #[.int .i64 1,.int .u64 (wd (sRange 121 121) 0:Nat),.int .u64 (wd (sRange 121 121) 1:Nat),.int .u64 (wd (sRange 121 121) 2:Nat),.int .u64 (wd (sRange 121 121) 3:Nat),.slice none 0 0,.int .i64 0,.int .i64 0]] u (fun e w'=>e=.returned (.string ⟨#[47,121,47]⟩)/\Below u.heap.size u w')from by
  have:=tree_ok B b _ yT none 0 0 u (hwr u hu) (yT_at u) (by decide) (by decide+kernel) yT_may (by rw [xzki];decide) (HX4.out.2.2.1.step (hlow u hu));rw [xzki]at this
  exact this))
 have HNU:=zd (fun(u:World)=>xzga b rc (by rw [<-HRC.out];rfl) u)
 have HL2:=zd (fun(u:World) (g:Nat) (hu:Below W9.heap.size W9 u) (hg:BlkIs u g 9 #[.string ⟨#[114,117,108,101]⟩,.string ⟨#[120]⟩,.string ⟨#[47,121,47]⟩,.string ⟨#[]⟩,.string ⟨#[]⟩,.string ⟨#[45,62]⟩,.string ⟨#[97]⟩])=>(show Calls Tryd.prog 29 #[.pointer (some ⟨b,0,none⟩),.slice (some ⟨g,0,none⟩) 7 7] u (fun e w'=>e=.returned (.tuple #[])/\(IsWr B b (Lib.byteCells (exL1++exL2)) false w'/\Below B u w'/\KeepT u w'))from by
  have:=xzhu line2 g 0 7 B b exL1 false u (hwr u hu) (fun j hj=>by
   rw [Nat.zero_add,hg.cell j]
   have:j=0\/j=1\/j=2\/j=3\/j=4\/j=5\/j=6:=by simp [line2]at hj;omega
   rcases this with rfl|rfl|rfl|rfl|rfl|rfl|rfl<;>rfl) hg.lt (by decide) (by decide+kernel) (by have:=HB4.out.size;have:=(hlow u hu).size;have:=HBB.out;have:=HBW.out.size;omega)
  rw [exL2_is]at this
  exact this))
 have HBU:=zd (show ∀ u,Below W9.heap.size W9 u->Below B w u from fun u hu=>HB4.out.trans ((hlow u hu).mono (by have:=HB4.out.size;have:=HBB.out;omega)))
 have hB0:B<=w4.heap.size:=by have:=HB4.out.size;have:=HBB.out;omega
 clear hB9 hW9 hW9' hr4 h1r hsr hlow hwr hB0
 go_wp2_with fail
 simp only [Act.put]
 refine xzau 22 77 (fun u=>Hid (Below W9.heap.size W9 u)) (fun _ u u'=>Below u.heap.size u u')
  (fun i v u=>match i with
   |0=>v=.pointer (some ⟨b,0,none⟩)
   |1=>v=.pointer (some ⟨w4.heap.size,0,none⟩)
   |2=>v=.string ⟨#[120]⟩
   |3=>v=.pointer (some ⟨b,0,none⟩)
   |4=>v=.pointer (some ⟨w4.heap.size,1,none⟩)
   |5=>v=.agg #[.int .i64 1,.int .u64 (wd (sRange 121 121) 0:Nat),.int .u64 (wd (sRange 121 121) 1:Nat),.int .u64 (wd (sRange 121 121) 2:Nat),.int .u64 (wd (sRange 121 121) 3:Nat),.slice none 0 0,.int .i64 0,.int .i64 0]
   |6=>v=.string ⟨#[47,121,47]⟩
   |7=>v=.pointer (some ⟨b,0,none⟩)
   |8=>v=.agg rc
   |9=>v=.string ⟨#[]⟩
   |10=>v=.pointer (some ⟨w4.heap.size,19,none⟩)
   |11=>v=.agg #[.int .i64 0,.int .i64 0,.int .i64 0,.int .i64 0,.bool false,.string ⟨#[]⟩]
   |12=>v=.string ⟨#[]⟩
   |13=>v=.pointer (some ⟨w.heap.size,1,none⟩)
   |14=>v=.slice (some ⟨gm,0,none⟩) 1 1
   |15=>v=.pointer (some ⟨w4.heap.size,19,none⟩)
   |16=>v=.pointer (some ⟨w4.heap.size,20,none⟩)
   |17=>v=.int .i64 0
   |18=>v=.pointer (some ⟨gm,0,none⟩)
   |19=>v=.pointer (some ⟨gm,0,none⟩)
   |20=>v=.string ⟨#[97]⟩
   |21=>∃ g,v=.slice (some ⟨g,0,none⟩) 7 7/\BlkIs u g 9 #[.string ⟨#[114,117,108,101]⟩,.string ⟨#[120]⟩,.string ⟨#[47,121,47]⟩,.string ⟨#[]⟩,.string ⟨#[]⟩,.string ⟨#[45,62]⟩,.string ⟨#[97]⟩]
   |_=>True) (by kernel_rfl) (by kernel_rfl) rfl (zd (Below.refl _ _).drew) ?_ ?_ ?_ ?_
 ·intro i u u' hix hC hr
  exact zd (hC.out.trans (hr.mono hC.out.size))
 ·intro i j v u u' hix hj hne hv hr
  match i,hix,hne,hv with
  |0,_,_,hv=>exact hv
  |1,_,_,hv=>exact hv
  |2,_,_,hv=>exact hv
  |3,_,_,hv=>exact hv
  |4,_,_,hv=>exact hv
  |5,_,_,hv=>exact hv
  |6,_,_,hv=>exact hv
  |7,_,_,hv=>exact hv
  |8,_,_,hv=>exact hv
  |9,_,_,hv=>exact hv
  |10,_,_,hv=>exact hv
  |11,_,_,hv=>exact hv
  |12,_,_,hv=>exact hv
  |13,_,_,hv=>exact hv
  |14,_,_,hv=>exact hv
  |15,_,_,hv=>exact hv
  |16,_,_,hv=>exact hv
  |17,_,_,hv=>exact hv
  |18,_,_,hv=>exact hv
  |19,_,_,hv=>exact hv
  |20,_,_,hv=>exact hv
  |21,_,hne,hv=>
   obtain⟨g,e,h1⟩:=hv;exact⟨g,e,h1.step hr⟩
  |i+22,hix,_,_=>omega
 ·intro i hix vs u hC hw oq ho
  match i,hix,hw,ho with
  |0,_,hw,ho=>
   simp only [zq,zh]at ho;subst ho;refine⟨rfl,?_⟩;clear hw;simp only [xzaa,tmpsTo];go_simp;exact xzad (Below.refl _ _) rfl
  |1,_,hw,ho=>
   simp only [zq,zh]at ho;subst ho;refine⟨rfl,?_⟩;clear hw;simp only [xzaa,tmpsTo,putT,zr];go_simp;exact xzad (Below.refl _ _) rfl
  |2,_,hw,ho=>
   have e1:vs 1=.pointer (some ⟨w4.heap.size,0,none⟩):=hw 1 (by omega) (by kernel_rfl);simp only [zq,zh]at ho;subst ho;refine⟨rfl,?_⟩;have hu9:=HR9.out u hC.out;have y0:u.cell? ⟨w4.heap.size,0,none⟩=(ruleC (sRange 121 121))[0]? :=hu9.cell 0;simp only [ruleC,zq]at y0;clear hw;simp only [xzaa,tmpsTo,putT,zr];rw [e1];clear e1;go_simp;exact xzad (Below.refl _ _) rfl
  |3,_,hw,ho=>
   simp only [zq,zh]at ho;subst ho;refine⟨rfl,?_⟩;clear hw;simp only [xzaa,tmpsTo,putT,zr];go_simp;exact xzad (Below.refl _ _) rfl
  |4,_,hw,ho=>
   simp only [zq,zh]at ho;subst ho;refine⟨rfl,?_⟩;clear hw;simp only [xzaa,tmpsTo,putT,zr];go_simp;exact xzad (Below.refl _ _) rfl
  |5,_,hw,ho=>
   have e4:vs 4=.pointer (some ⟨w4.heap.size,1,none⟩):=hw 4 (by omega) (by kernel_rfl);simp only [zq,zh]at ho;subst ho;refine⟨rfl,?_⟩;have hu9:=HR9.out u hC.out;have y1:u.cell? ⟨w4.heap.size,1,none⟩=(ruleC (sRange 121 121))[1]? :=hu9.cell 1;have y2:u.cell? ⟨w4.heap.size,2,none⟩=(ruleC (sRange 121 121))[2]? :=hu9.cell 2;have y3:u.cell? ⟨w4.heap.size,3,none⟩=(ruleC (sRange 121 121))[3]? :=hu9.cell 3;have y4:u.cell? ⟨w4.heap.size,4,none⟩=(ruleC (sRange 121 121))[4]? :=hu9.cell 4;have y5:u.cell? ⟨w4.heap.size,5,none⟩=(ruleC (sRange 121 121))[5]? :=hu9.cell 5;have y6:u.cell? ⟨w4.heap.size,6,none⟩=(ruleC (sRange 121 121))[6]? :=hu9.cell 6;have y7:u.cell? ⟨w4.heap.size,7,none⟩=(ruleC (sRange 121 121))[7]? :=hu9.cell 7;have y8:u.cell? ⟨w4.heap.size,8,none⟩=(ruleC (sRange 121 121))[8]? :=hu9.cell 8;simp only [ruleC,zq]at y1 y2 y3 y4 y5 y6 y7 y8;clear hw;simp only [xzaa,tmpsTo,putT,zr];rw [e4];clear e4;go_simp;exact xzad (Below.refl _ _) rfl
  |6,_,hw,ho=>
   have e3:vs 3=.pointer (some ⟨b,0,none⟩):=hw 3 (by omega) (by kernel_rfl);have e5:vs 5=.agg #[.int .i64 1,.int .u64 (wd (sRange 121 121) 0:Nat),.int .u64 (wd (sRange 121 121) 1:Nat),.int .u64 (wd (sRange 121 121) 2:Nat),.int .u64 (wd (sRange 121 121) 3:Nat),.slice none 0 0,.int .i64 0,.int .i64 0]:=hw 5 (by omega) (by kernel_rfl);simp only [zq,zh]at ho;subst ho;refine⟨rfl,?_⟩;clear hw;simp only [xzaa,tmpsTo,putT,zr];rw [e3,e5];clear e3 e5;go_simp;refine xzel ((HTR.out u hC.out).mono ?_);rintro e u' ⟨rfl,hbu⟩;exact⟨_,rfl,hbu,rfl⟩
  |7,_,hw,ho=>
   simp only [zq,zh]at ho;subst ho;refine⟨rfl,?_⟩;clear hw;simp only [xzaa,tmpsTo,putT,zr];go_simp;exact xzad (Below.refl _ _) rfl
  |8,_,hw,ho=>
   simp only [zq,zh]at ho;subst ho;refine⟨rfl,?_⟩;clear hw;simp only [xzaa,tmpsTo,putT,zr];rw [xzdw (v:=.agg rc) 40 (.tmp 9) (.pointer (some ⟨w4.heap.size,0,none⟩)) rfl (by rfl) (loadR (HRR.out u hC.out) HSZ.out)];exact xzad (Below.refl _ _) rfl
  |9,_,hw,ho=>
   have e7:vs 7=.pointer (some ⟨b,0,none⟩):=hw 7 (by omega) (by kernel_rfl);have e8:vs 8=.agg rc:=hw 8 (by omega) (by kernel_rfl);simp only [zq,zh]at ho;subst ho;refine⟨rfl,?_⟩;clear hw;simp only [xzaa,tmpsTo,putT,zr];rw [e7,e8];clear e7 e8;go_simp;refine xzel ((HNU.out u).mono ?_);rintro e u' ⟨rfl,hbu⟩;exact⟨_,rfl,hbu,rfl⟩
  |10,_,hw,ho=>
   simp only [zq,zh]at ho;subst ho;refine⟨rfl,?_⟩;clear hw;simp only [xzaa,tmpsTo,putT,zr];go_simp;exact xzad (Below.refl _ _) rfl
  |11,_,hw,ho=>
   have e10:vs 10=.pointer (some ⟨w4.heap.size,19,none⟩):=hw 10 (by omega) (by kernel_rfl);simp only [zq,zh]at ho;subst ho;refine⟨rfl,?_⟩;have hu9:=HR9.out u hC.out;have y19:u.cell? ⟨w4.heap.size,19,none⟩=(ruleC (sRange 121 121))[19]? :=hu9.cell 19;have y20:u.cell? ⟨w4.heap.size,20,none⟩=(ruleC (sRange 121 121))[20]? :=hu9.cell 20;have y21:u.cell? ⟨w4.heap.size,21,none⟩=(ruleC (sRange 121 121))[21]? :=hu9.cell 21;have y22:u.cell? ⟨w4.heap.size,22,none⟩=(ruleC (sRange 121 121))[22]? :=hu9.cell 22;have y23:u.cell? ⟨w4.heap.size,23,none⟩=(ruleC (sRange 121 121))[23]? :=hu9.cell 23;have y24:u.cell? ⟨w4.heap.size,24,none⟩=(ruleC (sRange 121 121))[24]? :=hu9.cell 24;simp only [ruleC,zq]at y19 y20 y21 y22 y23 y24;clear hw;simp only [xzaa,tmpsTo,putT,zr];rw [e10];clear e10;go_simp;exact xzad (Below.refl _ _) rfl
  |12,_,hw,ho=>
   have e11:vs 11=.agg #[.int .i64 0,.int .i64 0,.int .i64 0,.int .i64 0,.bool false,.string ⟨#[]⟩]:=hw 11 (by omega) (by kernel_rfl);simp only [zq,zh]at ho;subst ho;refine⟨rfl,?_⟩;clear hw;simp only [xzaa,tmpsTo,putT,zr];rw [e11];clear e11;go_simp;refine xzel ((xzdv 0 0 0 false ⟨#[]⟩ u).mono ?_);rintro e u' ⟨rfl,hbu⟩;exact⟨_,rfl,hbu,rfl⟩
  |13,_,hw,ho=>
   simp only [zq,zh]at ho;subst ho;refine⟨rfl,?_⟩;clear hw;simp only [xzaa,tmpsTo,putT,zr];go_simp;exact xzad (Below.refl _ _) rfl
  |14,_,hw,ho=>
   have e13:vs 13=.pointer (some ⟨w.heap.size,1,none⟩):=hw 13 (by omega) (by kernel_rfl);simp only [zq,zh]at ho;subst ho;refine⟨rfl,?_⟩
   have y1:u.cell? ⟨w.heap.size,1,none⟩=some (.slice (some ⟨gm,0,none⟩) 1 1):=by simpa using(HFF.out u hC.out).cell 1
   clear hw;simp only [xzaa,tmpsTo,putT,zr];rw [e13];clear e13;go_simp;exact xzad (Below.refl _ _) rfl
  |15,_,hw,ho=>
   simp only [zq,zh]at ho;subst ho;refine⟨rfl,?_⟩;clear hw;simp only [xzaa,tmpsTo,putT,zr];go_simp;exact xzad (Below.refl _ _) rfl
  |16,_,hw,ho=>
   have e15:vs 15=.pointer (some ⟨w4.heap.size,19,none⟩):=hw 15 (by omega) (by kernel_rfl);simp only [zq,zh]at ho;subst ho;refine⟨rfl,?_⟩;clear hw;simp only [xzaa,tmpsTo,putT,zr];rw [e15];clear e15;go_simp;exact xzad (Below.refl _ _) rfl
  |17,_,hw,ho=>
   have e16:vs 16=.pointer (some ⟨w4.heap.size,20,none⟩):=hw 16 (by omega) (by kernel_rfl);simp only [zq,zh]at ho;subst ho;refine⟨rfl,?_⟩;have hu9:=HR9.out u hC.out;have y20:u.cell? ⟨w4.heap.size,20,none⟩=(ruleC (sRange 121 121))[20]? :=hu9.cell 20;simp only [ruleC,zq]at y20;clear hw;simp only [xzaa,tmpsTo,putT,zr];rw [e16];clear e16;go_simp;exact xzad (Below.refl _ _) rfl
  |18,_,hw,ho=>
   have e14:vs 14=.slice (some ⟨gm,0,none⟩) 1 1:=hw 14 (by omega) (by kernel_rfl);have e17:vs 17=.int .i64 0:=hw 17 (by omega) (by kernel_rfl);simp only [zq,zh]at ho;subst ho;refine⟨rfl,?_⟩;clear hw;simp only [xzaa,tmpsTo,putT,zr];rw [e14,e17];clear e14 e17;go_simp;exact xzad (Below.refl _ _) rfl
  |19,_,hw,ho=>
   have e18:vs 18=.pointer (some ⟨gm,0,none⟩):=hw 18 (by omega) (by kernel_rfl);simp only [zq,zh]at ho;subst ho;refine⟨rfl,?_⟩;clear hw;simp only [xzaa,tmpsTo,putT,zr];rw [e18];clear e18;go_simp;exact xzad (Below.refl _ _) rfl
  |20,_,hw,ho=>
   have e19:vs 19=.pointer (some ⟨gm,0,none⟩):=hw 19 (by omega) (by kernel_rfl);simp only [zq,zh]at ho;subst ho;refine⟨rfl,?_⟩
   have y0:u.cell? ⟨gm,0,none⟩=some (.string ⟨#[97]⟩):=by simpa [modeC]using(HMM.out u hC.out).cell 0
   clear hw;simp only [xzaa,tmpsTo,putT,zr];rw [e19];clear e19;go_simp;exact xzad (Below.refl _ _) rfl
  |21,_,hw,ho=>
   have e2:vs 2=.string ⟨#[120]⟩:=hw 2 (by omega) (by kernel_rfl);have e6:vs 6=.string ⟨#[47,121,47]⟩:=hw 6 (by omega) (by kernel_rfl);have e9:vs 9=.string ⟨#[]⟩:=hw 9 (by omega) (by kernel_rfl);have e12:vs 12=.string ⟨#[]⟩:=hw 12 (by omega) (by kernel_rfl);have e20:vs 20=.string ⟨#[97]⟩:=hw 20 (by omega) (by kernel_rfl);simp only [zq,zh]at ho;subst ho;refine⟨rfl,?_⟩;clear hw;simp only [xzaa,tmpsTo,putT,zr];rw [e2,e6,e9,e12,e20];clear e2 e6 e9 e12 e20;go_simp;exact xzad ((Below.refl _ _).alloc (Nat.le_refl _) _) ⟨_,rfl,BlkIs.new _ _ _⟩
  |i+22,hix,_,_=>omega
 intro vs u hC hV;have e0:vs 0=_:=hV 0 (by omega);obtain⟨g,e21,hbs⟩:=hV 21 (by omega);have HLL:=zd (HL2.out u g hC.out hbs);have HUU:=zd (HBU.out u hC.out);clear hV hbs hC;simp only [xzaa,tmpsTo,putT,zr,List.drop_succ_cons,List.drop_zero];rw [e0,e21];clear e0 e21
 go_wp2_with fail
 go_at_call 29
 refine HLL.out.mono ?_;rintro e w8 ⟨rfl,hw8,hb8,hk8⟩;have HFIN:=zd (show IsWr B b (Lib.byteCells (exL1++exL2)) false w8/\Below B w w8 from⟨hw8,HUU.out.trans hb8⟩);clear hw8 hb8 hk8
 go_wp2_with(refine xzae ?_;intro _ _)
 go_end0
 exact⟨rfl,HFIN.out⟩
end Go.Proofs.YtgjfhbpmahgfcaaDoor
