/-
 rprint's May AT THE EXAMPLE: its parts: contracts. No condition.
-/
import Derived.Test.YtgjfhbpmahgfcaaDoorQG18
import Derived.Test.YtgjfhbpmahgfcaaDoorQG08
import Derived.Test.YtgjfhbpmahgfcaaDoorQG02
namespace Go.Proofs.YtgjfhbpmahgfcaaDoor
section
open Go.Shelf Go.RowKit
attribute [local irreducible] FreeW textFrame
set_option maxRecDepth 100000 in
set_option maxHeartbeats 2000000 in
theorem xzjm (w:World):Calls Tryd.prog 61 #[.agg #[.int .i64 0,.int .i64 0,.int .i64 0,.int .i64 0,.bool false,.string ⟨#[]⟩]] w fun e w'=>e=.returned (.bool true)/\Below w.heap.size w w':=by
 have hq:∀ u,(binOp .eql 117 (.agg #[.int .i64 0,.int .i64 0,.int .i64 0,.int .i64 0,.bool false,.string ⟨#[]⟩]) (.agg #[.int .i64 0,.int .i64 0,.int .i64 0,.int .i64 0,.bool false,.string ⟨#[]⟩])).run Tryd.prog u=.ok (.bool true) u:=fun u=>by kernel_rfl
 have hb:=((Below.refl w.heap.size w).alloc (Nat.le_refl _) (.cells #[.int .i64 0,.int .i64 0,.int .i64 0,.int .i64 0,.bool false,.string ⟨#[]⟩] 117)).alloc (by rw [World.size_alloc];omega) (.cells #[.int .i64 0,.int .i64 0,.int .i64 0,.int .i64 0,.bool false,.string ⟨#[]⟩] 117);have HB:=zd hb;clear hb
 go_enter Tryd.func61,Tryd.ntmps61
 go_wp2;go_ret;exact⟨rfl,HB.out⟩
set_option maxRecDepth 100000 in
set_option maxHeartbeats 2000000 in
theorem xzhy (w:World):Calls Tryd.prog 62 #[.agg #[.int .i64 0,.int .i64 0,.int .i64 0,.int .i64 0,.bool false,.string ⟨#[]⟩]] w fun e w'=>e=.returned (.bool true)/\Below w.heap.size w w':=by
 have HB:=zd ((Below.refl w.heap.size w).alloc (Nat.le_refl _) (.cells #[.int .i64 0,.int .i64 0,.int .i64 0,.int .i64 0,.bool false,.string ⟨#[]⟩] 117))
 go_enter Tryd.func62,Tryd.ntmps62
 go_wp2;go_ret;exact⟨rfl,HB.out⟩
set_option maxRecDepth 100000 in
set_option maxHeartbeats 2000000 in
theorem xzem (w:World):Calls Tryd.prog 63 #[.agg #[.int .i64 0,.int .i64 0,.int .i64 0,.int .i64 0,.bool false,.string ⟨#[]⟩]] w fun e w'=>e=.returned (.bool true)/\Below w.heap.size w w':=by
 have HB:=zd ((Below.refl w.heap.size w).alloc (Nat.le_refl _) (.cells #[.int .i64 0,.int .i64 0,.int .i64 0,.int .i64 0,.bool false,.string ⟨#[]⟩] 117))
 go_enter Tryd.func63,Tryd.ntmps63
 go_wp2;go_ret;exact⟨rfl,HB.out⟩
set_option maxRecDepth 100000 in
set_option maxHeartbeats 4000000 in
theorem xzlv (A:Option Addr)(w:World):Calls Tryd.prog 25 #[.agg #[.slice none 0 0,.slice A 1 1]] w fun e w'=>e=.returned (.bool true)/\Below w.heap.size w w':=by
 have HB:=zd ((Below.refl w.heap.size w).alloc (Nat.le_refl _) (.cells #[.slice none 0 0,.slice A 1 1] 76))
 go_enter Tryd.func25,Tryd.ntmps25
 go_wp2;go_ret;exact⟨rfl,HB.out⟩
set_option maxRecDepth 100000 in
set_option maxHeartbeats 4000000 in
theorem xzlw (a b c:Value)(A:Option Addr)(w:World):Calls Tryd.prog 39 #[.agg #[a,b,c,.slice A 1 1]] w fun e w'=>e=.returned (.bool true)/\Below w.heap.size w w':=by
 have HB:=zd ((Below.refl w.heap.size w).alloc (Nat.le_refl _) (.cells #[a,b,c,.slice A 1 1] 94))
 go_enter Tryd.func39,Tryd.ntmps39
 go_wp2;go_ret;exact⟨rfl,HB.out⟩
set_option maxRecDepth 100000 in
set_option maxHeartbeats 4000000 in
theorem xzhz (a b d:Value)(w:World):Calls Tryd.prog 40 #[.agg #[a,b,.int .i64 5,d]] w fun e w'=>e=.returned (.bool true)/\Below w.heap.size w w':=by
 have HB:=zd ((Below.refl w.heap.size w).alloc (Nat.le_refl _) (.cells #[a,b,.int .i64 5,d] 94))
 go_enter Tryd.func40,Tryd.ntmps40
 go_wp2;go_ret;exact⟨rfl,HB.out⟩
set_option maxRecDepth 100000 in
set_option maxHeartbeats 4000000 in
theorem xzea (a1:Value)(w:World):Calls Tryd.prog 26 #[.agg #[.slice none 0 0,a1]] w fun e w'=>e=.returned (.bool true)/\Below w.heap.size w w':=by
 have HB:=zd (((Below.refl w.heap.size w).alloc (Nat.le_refl _) (.cells #[.slice none 0 0,a1] 76)).alloc (by rw [World.size_alloc];omega) (.map #[] 0))
 have hmm:=fun u=>run_makeMap (P:=Tryd.prog) 91 u
 go_enter Tryd.func26,Tryd.ntmps26
 go_wp2;refine xzab 2 ?_
 go_wp2_with(refine xzae ?_;intro _ _)
 go_ret;exact⟨rfl,HB.out⟩
set_option maxRecDepth 100000 in
set_option maxHeartbeats 4000000 in
theorem xzen (w:World)(rc:Array Value)(hrc:ruleC (sRange 121 121)=rc):Calls Tryd.prog 52 #[.agg rc] w fun e w'=>e=.returned (.bool true)/\Below w.heap.size w w':=by
 obtain⟨W1,hW1⟩:∃ W1,w.alloc (.cells rc 106)=W1:=⟨_,rfl⟩
 have hb1:Below w.heap.size w W1:=by rw [<-hW1];exact(Below.refl _ _).alloc (Nat.le_refl _) _
 have hx1:BlkIs W1 w.heap.size 106 (ruleC (sRange 121 121)):=by rw [<-hW1,hrc];exact BlkIs.new _ _ _
 have y9:W1.cell? ⟨w.heap.size,9,none⟩=(ruleC (sRange 121 121))[9]? :=hx1.cell 9;have y10:W1.cell? ⟨w.heap.size,10,none⟩=(ruleC (sRange 121 121))[10]? :=hx1.cell 10;have y11:W1.cell? ⟨w.heap.size,11,none⟩=(ruleC (sRange 121 121))[11]? :=hx1.cell 11;simp only [ruleC,zq]at y9 y10 y11;have HB:=zd hb1;have HX:=zd (fun(u:World) (hu:Below W1.heap.size W1 u)=>hx1.step hu);clear hb1 hx1 hrc
 go_enter Tryd.func52,Tryd.ntmps52
 go_wp2;go_ret;exact⟨rfl,HB.out⟩
def eT:Tree:=.node 0 (fun _=>false) [] 0 0
theorem eT_at (W:World):Tree.At W eT (.agg #[.int .i64 0,.int .u64 0,.int .u64 0,.int .u64 0,.int .u64 0,.slice none 0 0,.int .i64 0,.int .i64 0]):=by
 have h:Tree.At W eT (reV 0 (fun _=>false) none 0 0 0 0):=by
  unfold eT Tree.At;exact⟨none,0,rfl,⟨Nat.le_refl _,by decide⟩,fun h=>absurd rfl h⟩
 unfold reV reL at h;simp only [wd_zero]at h;exact h
theorem eT_may:eT.mayN=true:=by decide+kernel
set_option maxRecDepth 100000 in
set_option maxHeartbeats 4000000 in
theorem xzgd (w:World)(rc:Array Value)(hrc:ruleC (sRange 121 121)=rc):Calls Tryd.prog 51 #[.agg rc] w fun e w'=>e=.returned (.bool true)/\Below w.heap.size w w':=by
 obtain⟨W1,hW1⟩:∃ W1,w.alloc (.cells rc 106)=W1:=⟨_,rfl⟩
 have hb1:Below w.heap.size w W1:=by rw [<-hW1];exact(Below.refl _ _).alloc (Nat.le_refl _) _
 have hx1:BlkIs W1 w.heap.size 106 (ruleC (sRange 121 121)):=by rw [<-hW1,hrc];exact BlkIs.new _ _ _
 have y1:W1.cell? ⟨w.heap.size,1,none⟩=(ruleC (sRange 121 121))[1]? :=hx1.cell 1;have y2:W1.cell? ⟨w.heap.size,2,none⟩=(ruleC (sRange 121 121))[2]? :=hx1.cell 2;have y3:W1.cell? ⟨w.heap.size,3,none⟩=(ruleC (sRange 121 121))[3]? :=hx1.cell 3;have y4:W1.cell? ⟨w.heap.size,4,none⟩=(ruleC (sRange 121 121))[4]? :=hx1.cell 4;have y5:W1.cell? ⟨w.heap.size,5,none⟩=(ruleC (sRange 121 121))[5]? :=hx1.cell 5;have y6:W1.cell? ⟨w.heap.size,6,none⟩=(ruleC (sRange 121 121))[6]? :=hx1.cell 6;have y7:W1.cell? ⟨w.heap.size,7,none⟩=(ruleC (sRange 121 121))[7]? :=hx1.cell 7;have y8:W1.cell? ⟨w.heap.size,8,none⟩=(ruleC (sRange 121 121))[8]? :=hx1.cell 8;simp only [ruleC,zq]at y1 y2 y3 y4 y5 y6 y7 y8;have HB:=zd hb1;have HX:=zd (fun(u:World) (hu:Below W1.heap.size W1 u)=>hx1.step hu);clear hb1 hx1 hrc
 have HY:=zd (fun(u:World)=>(show Calls Tryd.prog 37 #[.agg #[.int .i64 1,.int .u64 (wd (sRange 121 121) 0:Nat),.int .u64 (wd (sRange 121 121) 1:Nat),.int .u64 (wd (sRange 121 121) 2:Nat),.int .u64 (wd (sRange 121 121) 3:Nat),.slice none 0 0,.int .i64 0,.int .i64 0]] u (fun e w'=>e=.returned (.bool true)/\Below u.heap.size u w')from by
  have:=xzhd yT _ u (yT_at u) (by decide+kernel);rw [yT_may]at this
  exact this))
 have HE:=zd (fun(u:World)=>(show Calls Tryd.prog 37 #[.agg #[.int .i64 0,.int .u64 0,.int .u64 0,.int .u64 0,.int .u64 0,.slice none 0 0,.int .i64 0,.int .i64 0]] u (fun e w'=>e=.returned (.bool true)/\Below u.heap.size u w')from by
  have:=xzhd eT _ u (eT_at u) (by decide+kernel);rw [eT_may]at this
  exact this))
 go_enter Tryd.func51,Tryd.ntmps51
 go_wp2_with fail
 go_at_call 37
 refine(HY.out W1).mono ?_;rintro e w2 ⟨rfl,hb2⟩;have HB2:=zd hb2;have hx2:=HX.out w2 hb2;clear hb2 y1 y2 y3 y4 y5 y6 y7 y8;have y11:w2.cell? ⟨w.heap.size,11,none⟩=(ruleC (sRange 121 121))[11]? :=hx2.cell 11;have y12:w2.cell? ⟨w.heap.size,12,none⟩=(ruleC (sRange 121 121))[12]? :=hx2.cell 12;have y13:w2.cell? ⟨w.heap.size,13,none⟩=(ruleC (sRange 121 121))[13]? :=hx2.cell 13;have y14:w2.cell? ⟨w.heap.size,14,none⟩=(ruleC (sRange 121 121))[14]? :=hx2.cell 14;have y15:w2.cell? ⟨w.heap.size,15,none⟩=(ruleC (sRange 121 121))[15]? :=hx2.cell 15;have y16:w2.cell? ⟨w.heap.size,16,none⟩=(ruleC (sRange 121 121))[16]? :=hx2.cell 16;have y17:w2.cell? ⟨w.heap.size,17,none⟩=(ruleC (sRange 121 121))[17]? :=hx2.cell 17;have y18:w2.cell? ⟨w.heap.size,18,none⟩=(ruleC (sRange 121 121))[18]? :=hx2.cell 18;simp only [ruleC,zq]at y11 y12 y13 y14 y15 y16 y17 y18;clear hx2
 go_wp2_with fail
 go_at_call 37
 refine(HE.out w2).mono ?_;rintro e w3 ⟨rfl,hb3⟩;have HF:=zd (HB.out.trans ((HB2.out.trans (hb3.mono HB2.out.size)).mono HB.out.size));clear hb3 y11 y12 y13 y14 y15 y16 y17 y18;go_wp2;go_ret;exact⟨rfl,HF.out⟩
set_option maxRecDepth 100000 in
set_option maxHeartbeats 4000000 in
theorem xzia (w:World)(rc:Array Value)(hrc:ruleC (sRange 121 121)=rc):Calls Tryd.prog 53 #[.agg rc] w fun e w'=>e=.returned (.bool true)/\Below w.heap.size w w':=by
 obtain⟨W1,hW1⟩:∃ W1,w.alloc (.cells rc 106)=W1:=⟨_,rfl⟩
 have hb1:Below w.heap.size w W1:=by rw [<-hW1];exact(Below.refl _ _).alloc (Nat.le_refl _) _
 have hx1:BlkIs W1 w.heap.size 106 (ruleC (sRange 121 121)):=by rw [<-hW1,hrc];exact BlkIs.new _ _ _
 have y19:W1.cell? ⟨w.heap.size,19,none⟩=(ruleC (sRange 121 121))[19]? :=hx1.cell 19;have y20:W1.cell? ⟨w.heap.size,20,none⟩=(ruleC (sRange 121 121))[20]? :=hx1.cell 20;have y21:W1.cell? ⟨w.heap.size,21,none⟩=(ruleC (sRange 121 121))[21]? :=hx1.cell 21;have y22:W1.cell? ⟨w.heap.size,22,none⟩=(ruleC (sRange 121 121))[22]? :=hx1.cell 22;have y23:W1.cell? ⟨w.heap.size,23,none⟩=(ruleC (sRange 121 121))[23]? :=hx1.cell 23;have y24:W1.cell? ⟨w.heap.size,24,none⟩=(ruleC (sRange 121 121))[24]? :=hx1.cell 24;simp only [ruleC,zq]at y19 y20 y21 y22 y23 y24;have HB:=zd hb1;have HX:=zd (fun(u:World) (hu:Below W1.heap.size W1 u)=>hx1.step hu);clear hb1 hx1 hrc
 go_enter Tryd.func53,Tryd.ntmps53
 go_wp2_with fail
 go_at_call 60
 refine(is_next (.int .i64 0) (.int .i64 0) (.int .i64 0) (.int .i64 0) (.bool false) (.string ⟨#[]⟩) W1.heap.size _ ((BlkIs.new W1 _ _).cell 0) ((BlkIs.new W1 _ _).cell 1) ((BlkIs.new W1 _ _).cell 2) (fun u _=>xzjm u) (fun u _=>xzhy u) (fun u _=>xzem u)).mono ?_;rintro e w2 ⟨rfl,hb2⟩;have HF:=zd ((HB.out.alloc HB.out.size _).trans (hb2.mono ((HB.out.alloc HB.out.size _).size)));clear hb2;go_wp2;go_ret;exact⟨rfl,HF.out⟩
end
section
open Go.Shelf Go.RowKit
attribute [local irreducible] FreeW textFrame
section
variable {P : Program} {ops : Array Oper} {rest : List Oper} {op : Oper} {a : Act} {w : World} {Q : Exit → Act → World → Prop} {g : Nat}
theorem xzdd (hw:Region.wanted op (yielded ops a.tmps)=true)
 (h:∀ K:Act->World->Prop,(∀ a w,wpList P ops Q rest a w->K a w)->op.wp P a w K Q):wpList P ops Q (op::rest) a w:=
 wpList_step fun K hK=>by simp only [hw,if_true];exact h K hK
theorem xzjn (x:Operand)(ho:op.op=.load 40 x)(hx:a.eval x=.pointer (some ⟨g,0,none⟩)){t:TypeId}{cs:Array Value}(h:BlkIs w g t cs)(hs:cs.size=25)(hw:Region.wanted op (yielded ops a.tmps)=true)
 (hK:wpList Tryd.prog ops Q rest (a.put op.dst (.agg cs)) w):wpList Tryd.prog ops Q (op::rest) a w:=
 xzdd hw fun _ hk=>by
  unfold Oper.wp;rw [xzdw 40 x _ ho hx (loadR h hs)];exact hk _ _ hK
end
theorem xzlx {r B:Nat}{w w':World}{m:Obj}(h:w.heap[r]? =some m)(hb:Below B w w')(hr:r<B):w'.heap[r]? =some m:=(hb.block r hr).trans h
theorem xzkj (w:World)(m:Obj):(w.alloc m).heap[w.heap.size]? =some m:=by
 show(w.heap.push m)[w.heap.size]? =_
 simp
set_option maxRecDepth 100000 in
set_option maxHeartbeats 8000000 in
theorem xzge (a b c:Value)(gr:Nat)(w:World)(hr:BlkIs w gr 40 (ruleC (sRange 121 121))):Calls Tryd.prog 41 #[.agg #[a,b,c,.slice (some ⟨gr,0,none⟩) 1 1]] w fun e w'=>e=.returned (.bool true)/\Below w.heap.size w w':=by
 obtain⟨W1,hW1⟩:∃ W1,w.alloc (.cells #[a,b,c,.slice (some ⟨gr,0,none⟩) 1 1] 94)=W1:=⟨_,rfl⟩;obtain⟨W2,hW2⟩:∃ W2,W1.alloc (.map #[] 0)=W2:=⟨_,rfl⟩
 have hmm:=fun u=>run_makeMap (P:=Tryd.prog) 91 u
 have hb1:Below w.heap.size w W1:=by rw [<-hW1];exact(Below.refl _ _).alloc (Nat.le_refl _) _
 have hb12:Below W1.heap.size W1 W2:=by rw [<-hW2];exact(Below.refl _ _).alloc (Nat.le_refl _) _
 have hb2:Below w.heap.size w W2:=hb1.trans (hb12.mono hb1.size)
 have hx1:BlkIs W2 w.heap.size 94 #[a,b,c,.slice (some ⟨gr,0,none⟩) 1 1]:=by rw [<-hW2,<-hW1];exact(BlkIs.new _ _ _).alloc _
 have hm2:W2.heap[W1.heap.size]? =some (.map #[] 0):=by rw [<-hW2];exact xzkj _ _
 have hs12:W2.heap.size=W1.heap.size+1:=by rw [<-hW2,World.size_alloc]
 have hs1:W1.heap.size=w.heap.size+1:=by rw [<-hW1,World.size_alloc]
 have d3:=hx1.cell 3;have HR2:=zd (hr.step hb2);have HB2:=zd hb2;have HSZ:=zd (And.intro hs1 hs12);have HM2:=zd hm2;obtain⟨rc,hrc⟩:∃ rc,ruleC (sRange 121 121)=rc:=⟨_,rfl⟩;have h1r:=xzdc (sRange 121 121);have hsr:(ruleC (sRange 121 121)).size=25:=rfl;have HRD:=zd (show BlkIs W2 gr 40 rc from hrc▸(hr.step hb2));rw [hrc]at h1r hsr;have HRC:=zd hrc;clear hr hb1 hb12 hb2 hx1 hs1 hs12 hrc hm2
 go_enter Tryd.func41,Tryd.ntmps41
 go_wp2;refine xzab 3 ?_;refine xzae ?_;intro K1 hK1
 go_wp2_with(first
  |((with_reducible refine xzbh rfl (.tmp 12) ?_ ?_ HRD.out hsr ?_);exact rfl;exact rfl)
  |((with_reducible refine xzbe rfl (.tmp 5) (.tmp 13) ?_ ?_ ?_ (BlkIs.new W2 40 _) ?_ hsr h1r ?_);exact rfl;exact rfl;exact rfl;exact rfl;intro W3 hW3 hB3;have hb3:=hB3 W2.heap.size W2 (Nat.le_refl _) ((Below.refl _ _).alloc (Nat.le_refl _) _);have hx3:BlkIs W3 W2.heap.size 40 (ruleC (sRange 121 121)):=HRC.out▸hW3;have y0:W3.cell? ⟨W2.heap.size,0,none⟩=some (.string ⟨#[120]⟩):=hx3.cell 0;have HX3:=zd (And.intro hb3 hx3);clear hB3 hb3 hx3 hW3))
 go_at_call 36
 refine(xzct ⟨#[120]⟩ W1.heap.size W3 (xzlx HM2.out HX3.out.1 (by have:=HSZ.out;omega)) (by decide)).mono ?_;rintro e w4 ⟨rfl,ho4⟩;have hx4:=ho4.blk (by have:=HSZ.out;omega) HX3.out.2;have hb4:Below w.heap.size w w4:=ho4.below (HB2.out.trans (HX3.out.1.mono HB2.out.size)) (by have:=HSZ.out;omega) (Nat.le_refl _);have HB4:=zd hb4;clear ho4 hb4 y0 HRD h1r;rw [HRC.out]at hx4;have HX4:=zd hx4;clear hx4
 go_wp2_with(first
  |((with_reducible refine xzjn (.tmp 5) ?_ ?_ HX4.out hsr ?_ ?_);exact rfl;exact rfl;kernel_rfl))
 go_at_call 50
 refine(is_rule rc hsr w4.heap.size _ ((BlkIs.new w4 _ _).cell 0) ((BlkIs.new w4 _ _).cell 1) ((BlkIs.new w4 _ _).cell 2) (fun u _=>xzgd u _ HRC.out) (fun u _=>xzen u _ HRC.out) (fun u _=>xzia u _ HRC.out)).mono ?_;rintro e w5 ⟨rfl,hb5⟩;have HF:=zd ((HB4.out.alloc HB4.out.size _).trans (hb5.mono ((HB4.out.alloc HB4.out.size _).size)));clear hb5
 go_wp2_with(refine xzae ?_;intro _ _)
 go_ret;exact⟨rfl,HF.out⟩
set_option maxRecDepth 100000 in
set_option maxHeartbeats 8000000 in
theorem xzgf (gm gr:Nat)(w:World)(hx:ExAt w gm gr):Calls Tryd.prog 27 #[.agg #[.slice none 0 0,.slice (some ⟨gm,0,none⟩) 1 1]] w fun e w'=>e=.returned (.bool true)/\Below w.heap.size w w':=by
 obtain⟨W1,hW1⟩:∃ W1,w.alloc (.cells #[.slice none 0 0,.slice (some ⟨gm,0,none⟩) 1 1] 76)=W1:=⟨_,rfl⟩;obtain⟨W2,hW2⟩:∃ W2,W1.alloc (.map #[] 0)=W2:=⟨_,rfl⟩;obtain⟨W3,hW3⟩:∃ W3,W2.alloc (.cells #[.string ⟨#[97]⟩,.bool true,.int .i64 5,.slice (some ⟨gr,0,none⟩) 1 1] 43)=W3:=⟨_,rfl⟩
 have hmm:=fun u=>run_makeMap (P:=Tryd.prog) 91 u
 have hb1:Below w.heap.size w W1:=by rw [<-hW1];exact(Below.refl _ _).alloc (Nat.le_refl _) _
 have hb12:Below W1.heap.size W1 W2:=by rw [<-hW2];exact(Below.refl _ _).alloc (Nat.le_refl _) _
 have hb23:Below W2.heap.size W2 W3:=by rw [<-hW3];exact(Below.refl _ _).alloc (Nat.le_refl _) _
 have hb2:Below w.heap.size w W2:=hb1.trans (hb12.mono hb1.size);have hb3:Below w.heap.size w W3:=hb2.trans (hb23.mono hb2.size)
 have hx1:BlkIs W2 w.heap.size 76 #[.slice none 0 0,.slice (some ⟨gm,0,none⟩) 1 1]:=by rw [<-hW2,<-hW1];exact(BlkIs.new _ _ _).alloc _
 have hx3:BlkIs W3 W2.heap.size 43 #[.string ⟨#[97]⟩,.bool true,.int .i64 5,.slice (some ⟨gr,0,none⟩) 1 1]:=by rw [<-hW3];exact BlkIs.new _ _ _
 have hs12:W2.heap.size=W1.heap.size+1:=by rw [<-hW2,World.size_alloc]
 have hs1:W1.heap.size=w.heap.size+1:=by rw [<-hW1,World.size_alloc]
 have hm3:W3.heap[W1.heap.size]? =some (.map #[] 0):=by
  rw [<-hW3,<-hW2];exact(Below.heap_alloc _ _ _ (by rw [World.size_alloc];omega)).trans (xzkj _ _)
 have hxm:=(hx.step hb2).mode;have m0:W2.cell? ⟨gm,0,none⟩=some (.string ⟨#[97]⟩):=hxm.cell 0;have m1:W2.cell? ⟨gm,1,none⟩=some (.bool true):=hxm.cell 1;have m2:W2.cell? ⟨gm,2,none⟩=some (.int .i64 5):=hxm.cell 2;have m3:W2.cell? ⟨gm,3,none⟩=some (.slice (some ⟨gr,0,none⟩) 1 1):=hxm.cell 3;have d1:=hx1.cell 1;have n0:=hx3.cell 0;have HX:=zd (fun(u:World) (hu:Below w.heap.size w u)=>hx.step hu);have HS:=zd (And.intro hs1 (And.intro hs12 (And.intro hm3 (And.intro hx3 hb3))));clear hb1 hb12 hb23 hb2 hb3 hx1 hx3 hs12 hs1 hm3 hxm hx
 go_enter Tryd.func27,Tryd.ntmps27
 go_wp2;refine xzab 3 ?_;refine xzae ?_;intro K1 hK1
 go_wp2_with fail
 go_at_call 36
 refine(xzct ⟨#[97]⟩ W1.heap.size W3 HS.out.2.2.1 (by decide)).mono ?_;rintro e w4 ⟨rfl,ho4⟩;have hx4:=ho4.blk (by have:=HS.out;omega) HS.out.2.2.2.1;have hb4:Below w.heap.size w w4:=ho4.below HS.out.2.2.2.2 (by have:=HS.out;omega) (Nat.le_refl _);have HB4:=zd hb4;clear m0 m1 m2 m3 d1 n0;have n0:=hx4.cell 0;have n1:=hx4.cell 1;have n2:=hx4.cell 2;have n3:=hx4.cell 3;clear ho4 hb4 hx4
 go_wp2_with fail
 go_at_call 38
 refine(is_mode (.string ⟨#[97]⟩) (.bool true) (.int .i64 5) (.slice (some ⟨gr,0,none⟩) 1 1) w4.heap.size _ ((BlkIs.new w4 _ _).cell 0) ((BlkIs.new w4 _ _).cell 1) ((BlkIs.new w4 _ _).cell 2) (fun u _=>xzlw _ _ _ _ u) (fun u _=>xzhz _ _ _ u) (fun u hu=>xzge _ _ _ gr u ((HX.out _ (HB4.out.alloc HB4.out.size _)).step hu).rule)).mono ?_;rintro e w5 ⟨rfl,hb5⟩;have HF:=zd ((HB4.out.alloc HB4.out.size _).trans (hb5.mono ((HB4.out.alloc HB4.out.size _).size)));clear hb5 n0 n1 n2 n3
 go_wp2_with(refine xzae ?_;intro _ _)
 go_ret;exact⟨rfl,HF.out⟩
set_option maxRecDepth 100000 in
set_option maxHeartbeats 8000000 in
theorem xzly (gm gr:Nat)(w:World)(hx:ExAt w gm gr):Calls Tryd.prog 28 #[.agg #[.slice none 0 0,.slice (some ⟨gm,0,none⟩) 1 1]] w fun e w'=>e=.returned (.bool true)/\Below w.heap.size w w':=by
 obtain⟨W1,hW1⟩:∃ W1,w.alloc (.cells #[.slice none 0 0,.slice (some ⟨gm,0,none⟩) 1 1] 76)=W1:=⟨_,rfl⟩;obtain⟨W2,hW2⟩:∃ W2,W1.alloc (.cells #[.string ⟨#[97]⟩,.bool true,.int .i64 5,.slice (some ⟨gr,0,none⟩) 1 1] 43)=W2:=⟨_,rfl⟩
 have hb1:Below w.heap.size w W1:=by rw [<-hW1];exact(Below.refl _ _).alloc (Nat.le_refl _) _
 have hb12:Below W1.heap.size W1 W2:=by rw [<-hW2];exact(Below.refl _ _).alloc (Nat.le_refl _) _
 have hb2:Below w.heap.size w W2:=hb1.trans (hb12.mono hb1.size)
 have hx1:BlkIs W1 w.heap.size 76 #[.slice none 0 0,.slice (some ⟨gm,0,none⟩) 1 1]:=by rw [<-hW1];exact BlkIs.new _ _ _
 have hx2:BlkIs W2 W1.heap.size 43 #[.string ⟨#[97]⟩,.bool true,.int .i64 5,.slice (some ⟨gr,0,none⟩) 1 1]:=by rw [<-hW2];exact BlkIs.new _ _ _
 have hxm:=(hx.step hb1).mode;have m0:W1.cell? ⟨gm,0,none⟩=some (.string ⟨#[97]⟩):=hxm.cell 0;have m1:W1.cell? ⟨gm,1,none⟩=some (.bool true):=hxm.cell 1;have m2:W1.cell? ⟨gm,2,none⟩=some (.int .i64 5):=hxm.cell 2;have m3:W1.cell? ⟨gm,3,none⟩=some (.slice (some ⟨gr,0,none⟩) 1 1):=hxm.cell 3;have d1:=hx1.cell 1;have n3:=hx2.cell 3;obtain⟨rc,hrc⟩:∃ rc,ruleC (sRange 121 121)=rc:=⟨_,rfl⟩;have h1r:=xzdc (sRange 121 121);have hsr:(ruleC (sRange 121 121)).size=25:=rfl;have HRD:=zd (show BlkIs W2 gr 40 rc from hrc▸(hx.step hb2).rule);rw [hrc]at h1r hsr;have HRC:=zd hrc;have HS:=zd (And.intro hb2 (hx1.step hb12));clear hb1 hb12 hb2 hx1 hx2 hxm hx hrc
 go_enter Tryd.func28,Tryd.ntmps28
 go_wp2;refine xzab 3 ?_;refine xzae ?_;intro K1 hK1;go_wp2;refine xzab 3 ?_;refine xzae ?_;intro K2 hK2
 go_wp2_with(first
  |((with_reducible refine xzbh rfl (.tmp 19) ?_ ?_ HRD.out hsr ?_);exact rfl;exact rfl)
  |((with_reducible refine xzbe rfl (.tmp 6) (.tmp 20) ?_ ?_ ?_ (BlkIs.new W2 40 _) ?_ hsr h1r ?_);exact rfl;exact rfl;exact rfl;exact rfl;intro W3 hW3 hB3;have hb3:=hB3 W2.heap.size W2 (Nat.le_refl _) ((Below.refl _ _).alloc (Nat.le_refl _) _);have hx3:BlkIs W3 W2.heap.size 40 (ruleC (sRange 121 121)):=HRC.out▸hW3;have y20:W3.cell? ⟨W2.heap.size,20,none⟩=some (.int .i64 0):=hx3.cell 20;have f1:W3.cell? ⟨w.heap.size,1,none⟩=some (.slice (some ⟨gm,0,none⟩) 1 1):=(HS.out.2.step hb3).cell 1;have HF:=zd (HS.out.1.trans (hb3.mono HS.out.1.size));clear hB3 hb3 hx3 hW3)
  |(refine xzae ?_;intro _ _))
 go_ret;exact⟨rfl,HF.out⟩
set_option maxRecDepth 100000 in
set_option maxHeartbeats 8000000 in
theorem may_ex (gm gr:Nat)(w:World)(hx:ExAt w gm gr):Calls Tryd.prog 16 #[.agg #[.slice none 0 0,.slice (some ⟨gm,0,none⟩) 1 1]] w fun e w'=>e=.returned (.bool true)/\Below w.heap.size w w':=by
 have HX:=zd (fun(u:World) (hu:Below w.heap.size w u)=>hx.step hu);have HB:=zd ((Below.refl w.heap.size w).alloc (Nat.le_refl _) (.cells #[.slice none 0 0,.slice (some ⟨gm,0,none⟩) 1 1] 47));obtain⟨W1,hW1⟩:∃ W1,w.alloc (.cells #[.slice none 0 0,.slice (some ⟨gm,0,none⟩) 1 1] 47)=W1:=⟨_,rfl⟩;rw [hW1]at HB
 have hx1:BlkIs W1 w.heap.size 47 #[.slice none 0 0,.slice (some ⟨gm,0,none⟩) 1 1]:=by rw [<-hW1];exact BlkIs.new _ _ _
 have d0:=hx1.cell 0;have d1:=hx1.cell 1;clear hx hx1
 go_enter Tryd.func16,Tryd.ntmps16
 go_wp2_with fail
 go_at_call 24
 refine(is_file (.slice none 0 0) (.slice (some ⟨gm,0,none⟩) 1 1) W1.heap.size _ ((BlkIs.new W1 _ _).cell 0) ((BlkIs.new W1 _ _).cell 1) ((BlkIs.new W1 _ _).cell 2) ((BlkIs.new W1 _ _).cell 3) (fun u _=>xzlv _ u) (fun u _=>xzea _ u) (fun u hu=>xzgf gm gr u ((HX.out _ (HB.out.alloc HB.out.size _)).step hu)) (fun u hu=>xzly gm gr u ((HX.out _ (HB.out.alloc HB.out.size _)).step hu))).mono ?_;rintro e w5 ⟨rfl,hb5⟩;have HF:=zd ((HB.out.alloc HB.out.size _).trans (hb5.mono ((HB.out.alloc HB.out.size _).size)));clear hb5 d0 d1;go_wp2;go_ret;exact⟨rfl,HF.out⟩
end
section
open Go.Shelf Go.RowKit
attribute [local irreducible] FreeW textFrame
set_option maxRecDepth 100000 in
set_option maxHeartbeats 8000000 in
theorem xzlz (gm gr:Nat)(w:World)(hx:ExAt w gm gr)(hT:Tab w):Calls Tryd.prog 9 #[.agg #[.slice none 0 0,.slice (some ⟨gm,0,none⟩) 1 1]] w fun e w'=>e=.returned (.tuple #[.string ⟨(exL1++exL2).toArray⟩,.int .i64 0])/\Below w.heap.size w w':=by
 obtain⟨W1,hW1⟩:∃ W1,w.alloc (.cells #[.slice none 0 0,.slice (some ⟨gm,0,none⟩) 1 1] 47)=W1:=⟨_,rfl⟩
 have hb1:Below w.heap.size w W1:=by rw [<-hW1];exact(Below.refl _ _).alloc (Nat.le_refl _) _
 have hx1:BlkIs W1 w.heap.size 47 #[.slice none 0 0,.slice (some ⟨gm,0,none⟩) 1 1]:=by rw [<-hW1];exact BlkIs.new _ _ _
 have HX:=zd (fun(u:World) (hu:Below w.heap.size w u)=>hx.step hu);have HT:=zd (fun(u:World) (hu:Below w.heap.size w u)=>hT.step hu);have HP:=zd hT.pos;have HF1:=zd (fun(u:World) (hu:Below W1.heap.size W1 u)=>hx1.step hu);have HB1:=zd hb1;have d0:=hx1.cell 0;have d1:=hx1.cell 1;clear hx hT hb1 hx1
 go_enter Tryd.func9,Tryd.ntmps9
 go_wp2_with fail
 go_at_call 16
 refine(may_ex gm gr W1 (HX.out W1 HB1.out)).mono ?_;rintro e w2 ⟨rfl,hb2⟩;obtain⟨W3,hW3⟩:∃ W3,w2.alloc (.cells #[.pointer none,.slice none 0 0,.bool false] 66)=W3:=⟨_,rfl⟩
 have hb3:Below w2.heap.size w2 W3:=by rw [<-hW3];exact(Below.refl _ _).alloc (Nat.le_refl _) _
 have hb13:Below W1.heap.size W1 W3:=hb2.trans (hb3.mono hb2.size);have hbw:Below w.heap.size w W3:=HB1.out.trans (hb13.mono HB1.out.size)
 have hwr:IsWr w.heap.size w2.heap.size [] false W3:=by
  refine .inl ⟨by have:=HB1.out.size;have:=hb2.size;omega,.slice none 0 0,by rw [<-hW3];exact BlkIs.new _ _ _,World.ownsRow_nil _ _ _ _,by simp [Value.ownBlock]⟩
 have HFL:=zd (file_ex gm gr w.heap.size w2.heap.size W3 (HX.out W3 hbw) hwr hbw.size HP.out (HT.out W3 hbw));have hf3:=HF1.out W3 hb13;have HBW:=zd hbw;clear d0 d1;have d0:=hf3.cell 0;have d1:=hf3.cell 1;clear hb2 hb3 hb13 hbw hwr hf3
 go_wp2_with fail
 go_at_call 17
 refine HFL.out.mono ?_;rintro e w4 ⟨rfl,hw4,hb4⟩;have m2:=hw4.cell2;have hln:=wr_len _ _ _ _ _ hw4;rw [Lib.byteCells_length]at hln
 have hle:(exL1++exL2).length=35:=by decide+kernel
 rw [hle]at hln;have HLN:=zd hln;have HST:=zd (xzis _ _ _ _ _ hw4 (by decide+kernel));have HB4:=zd (HBW.out.trans hb4);clear hw4 hb4 hln hle d0 d1
 go_wp2_with fail
 go_at_call 18
 refine HLN.out.mono ?_;rintro e w5 ⟨rfl,rfl⟩
 go_wp2_with fail
 go_at_call 13
 refine HST.out.mono ?_;rintro e w6 ⟨rfl,hb6⟩;have HF:=zd (HB4.out.trans hb6);clear hb6 m2;go_wp2
 go_ret2
 exact⟨rfl,HF.out⟩
theorem exText:(⟨(exL1++exL2).toArray⟩:ByteArray)=⟨#[109,111,100,101,32,97,32,108,105,109,105,116,32,53,32,101,110,100,10,114,117,108,101,32,120,32,47,121,47,32,45,62,32,97,10]⟩:=by
 apply ByteArray.ext
 exact congrArg List.toArray (show exL1++exL2=_ by decide+kernel)
theorem xzgg (u:World)(o:Obj)(hT:Tab u):Calls Tryd.prog 9 #[.agg #[.slice none 0 0,.slice (some ⟨u.heap.size+1+1,0,none⟩) 1 1]] (((u.alloc o).alloc (.cells (ruleC (sRange 121 121)) 40)).alloc (.cells (modeC (u.heap.size+1)) 43)) fun e w'=>
 e=.returned (.tuple #[.string ⟨#[109,111,100,101,32,97,32,108,105,109,105,116,32,53,32,101,110,100,10,114,117,108,101,32,120,32,47,121,47,32,45,62,32,97,10]⟩,.int .i64 0])/\Below u.heap.size u w':=by
 have hb:Below u.heap.size u (((u.alloc o).alloc (.cells (ruleC (sRange 121 121)) 40)).alloc (.cells (modeC (u.heap.size+1)) 43)):=(((Below.refl _ _).alloc (Nat.le_refl _) _).alloc (by rw [World.size_alloc];omega) _).alloc (by simp only [World.size_alloc];omega) _;have hr:=(BlkIs.new (u.alloc o) 40 (ruleC (sRange 121 121))).alloc (.cells (modeC (u.heap.size+1)) 43);have hm:=BlkIs.new ((u.alloc o).alloc (.cells (ruleC (sRange 121 121)) 40)) 43 (modeC (u.heap.size+1));simp only [World.size_alloc]at hr hm;refine(xzlz _ _ _ ⟨hm,hr⟩ (hT.step hb)).mono ?_;rintro e w' ⟨rfl,h⟩;exact⟨by rw [exText],hb.trans (h.mono hb.size)⟩
set_option maxRecDepth 100000 in
set_option maxHeartbeats 8000000 in
theorem xzgh (w:World)(hT:Tab w):Calls Tryd.prog 4 #[] w fun e w'=>e=.returned (.bool true)/\Below w.heap.size w w':=by
 have HT:=zd (fun(u:World) (hu:Below w.heap.size w u)=>hT.step hu);clear hT;have HR:=zd (show Calls Tryd.prog 8 #[.int .i64 121,.int .i64 121] w (fun e w'=>e=.returned (setV (sRange 121 121))/\Below w.heap.size w w')from xzec 121 121 (by omega) w)
 go_enter Tryd.func4,Tryd.ntmps4
 go_wp2_with fail
 go_at_call 8
 refine HR.out.mono ?_;rintro e w1 ⟨rfl,hb1⟩;have HB1:=zd hb1;clear hb1;unfold setV
 go_wp2_with fail
 go_at_call 9
 refine(xzgg w1 _ (HT.out w1 HB1.out)).mono ?_;rintro e w2 ⟨rfl,hb2⟩;have HF:=zd (HB1.out.trans (hb2.mono HB1.out.size));clear hb2;go_wp2;go_ret;exact⟨rfl,HF.out⟩
end
end Go.Proofs.YtgjfhbpmahgfcaaDoor
