/-
 WHAT Next AND Bytes OF PACKAGE octs ANSWER: contracts. Condition: the table of math/bits lies as it is laid.
-/
import Derived.Deep.RegionHeld3
import Derived.Maps.AppendAt
import Derived.OwnWalkIn
import Derived.Test.YtgbljnnmhmlifaaGreatDoorQG03
import Derived.Test.YtgbljnnmhmlifaaGreatDoorQG02
import Derived.Test.YtgbljnnmhmlifaaGreatDoorQG30
import Derived.Test.YtgbljnnmhmlifaaGreatDoorQG05
namespace Go.Proofs.YtgbljnnmhmlifaaGreatDoor
section
open Go.RowKit
def SeqIs (m:Nat->Bool)(w:World):Ending->World->Prop:=fun e w'=>
 ∃ B,e=.returned (.func (.func 106) #[] #[.pointer (some ⟨B,0,none⟩)])/\BlkIs w' B 47 #[.int .u64 (wd m 0:Nat),.int .u64 (wd m 1:Nat),.int .u64 (wd m 2:Nat),.int .u64 (wd m 3:Nat)]/\w.heap.size<=B/\Below w.heap.size w w'
theorem xzxh (m:Nat->Bool)(w:World):Calls Tryz.prog 94 #[setV m] w (SeqIs m w):=by
 go_enter Tryz.func94,Tryz.ntmps94
 go_wp2;go_ret;exact⟨w.heap.size,rfl,BlkIs.new _ _ _,Nat.le_refl _,(Below.refl _ _).alloc (Nat.le_refl _) _⟩
theorem xznb (n:Nat)(hn:1<=n)(B n₀:Nat)(hn0:0<n₀)(m:Nat->Bool)(w:World)(hbox:BlkIs w B 47 #[.int .u64 (wd m 0:Nat),.int .u64 (wd m 1:Nat),.int .u64 (wd m 2:Nat),.int .u64 (wd m 3:Nat)])(hT:Tab w):
 SeqStopsK Fence.wide n Tryz.prog 106 #[.pointer (some ⟨B,0,none⟩)] (fun x:B256=>#[.int .u8 (x.1:Nat)]) (Below n₀) (fun xs:List B256=>xs.map (fun x=>x.1)=mems m 256) (fun pre:List B256=>pre.map (fun x=>x.1)<+:mems m 256) 256 w:=
 fun l J Jx W hW _ _ hY h0=>yzez n hn l B n₀ hn0 m J Jx hY W (hbox.step hW) (hT.step hW) h0
def nextS (m:Nat->Bool)(k:Int):Int:=match mems (sLess m (sBelow k)) 256 with|[]=> -1|b::_=>(b:Int)
theorem yzgk {w2 W W':World}{g:Nat}{t:TypeId}{a b c d:Value}(hx:BlkIs w2 g t #[a,b,c,d])
 (h:Below w2.heap.size w2 W/\W.cell? ⟨g,0,none⟩=some a/\W.cell? ⟨g,1,none⟩=some b/\W.cell? ⟨g,2,none⟩=some c/\W.cell? ⟨g,3,none⟩=some d)(hb:Below W.heap.size W W'):
 Below w2.heap.size w2 W'/\W'.cell? ⟨g,0,none⟩=some a/\W'.cell? ⟨g,1,none⟩=some b/\W'.cell? ⟨g,2,none⟩=some c/\W'.cell? ⟨g,3,none⟩=some d:=
 have hb2:=h.1.trans (hb.mono h.1.size);have hx2:=(hx.step hb2).four
 ⟨hb2,hx2.1,hx2.2.1,hx2.2.2.1,hx2.2.2.2.1⟩
theorem xzgs {w w':World}{g:Nat}{t:TypeId}{cs:Array Value}{row:Option Nat}(h:BlkIs w g t cs)(hg:w.grownBy w' row)(hr:∀ r,row=some r->∃ o:Obj,w.heap[r]? =some o/\o.isCells=false):BlkIs w' g t cs:=by
 refine(hg.block g h.lt (fun e=>?_)).trans h;obtain⟨o,ho,hn⟩:=hr g e.symm;unfold BlkIs at h;rw [h]at ho
 cases ho
 cases hn
theorem xzxi {w:World}{g:Nat}{t:TypeId}{x:Int}(h:BlkIs w g t #[.int .i64 x]):(loadVar 3 ⟨g,0,none⟩).run Tryz.prog w=.ok (.int .i64 x) w:=by
 have c:=h.cell 0
 simp at c
 go_simp
attribute [local go_sem] Oper.semAt_some
set_option maxRecDepth 100000 in
set_option maxHeartbeats 1000000 in
theorem yzgl (m:Nat->Bool)(k:Int)(hk:k<=9223372036854775807)(w:World)(hT:Tab w):
 Calls Tryz.prog 75 #[setV m,.int .i64 k] w fun e w'=>e=.returned (.int .i64 (nextS m k))/\Below w.heap.size w w':=by
 have HT:=zd hT;clear hT;refine(callsIn_wide (n:=3)).1 ?_;refine callsIn_of_wp_marks Tryz.func75 rfl trivial ?_ rfl;simp only [Tryz.ntmps75,List.size_toArray,List.length_cons,List.length_nil,Nat.reduceAdd,Nat.reduceSub,Array.replicate_succ,Array.replicate_zero,List.push_toArray,List.append_toArray,List.nil_append,List.cons_append];refine wpIn_wide.2 ?_;go_wp2;have hx0:=(BlkIs.new w 47 #[.int .u64 (wd m 0:Nat),.int .u64 (wd m 1:Nat),.int .u64 (wd m 2:Nat),.int .u64 (wd m 3:Nat)]).alloc (.cells #[.int .i64 0] 3);have hr0:=BlkIs.new (w.alloc (.cells #[.int .u64 (wd m 0:Nat),.int .u64 (wd m 1:Nat),.int .u64 (wd m 2:Nat),.int .u64 (wd m 3:Nat)] 47)) 3 #[.int .i64 0];rw [World.size_alloc]at hr0;have hB0:Below w.heap.size w ((w.alloc (.cells #[.int .u64 (wd m 0:Nat),.int .u64 (wd m 1:Nat),.int .u64 (wd m 2:Nat),.int .u64 (wd m 3:Nat)] 47)).alloc (.cells #[.int .i64 0] 3)):=((Below.refl _ _).alloc (Nat.le_refl _) _).alloc (by simp) _;generalize(w.alloc (.cells #[.int .u64 (wd m 0:Nat),.int .u64 (wd m 1:Nat),.int .u64 (wd m 2:Nat),.int .u64 (wd m 3:Nat)] 47)).alloc (.cells #[.int .i64 0] 3)=w2 at*;have HX:=zd hx0;have HR:=zd hr0;have HB:=zd hB0;clear hx0 hr0 hB0
 go_region_held3 (fun w'=>Below w2.heap.size w2 w'/\w'.cell? ⟨w.heap.size,0,none⟩=some (.int .u64 (wd m 0:Nat))/\w'.cell? ⟨w.heap.size,1,none⟩=some (.int .u64 (wd m 1:Nat))/\
  w'.cell? ⟨w.heap.size,2,none⟩=some (.int .u64 (wd m 2:Nat))/\w'.cell? ⟨w.heap.size,3,none⟩=some (.int .u64 (wd m 3:Nat)))
  ((first
    |exact yzgk HX.out (by assumption) hb1
    |exact⟨(Below.refl _ _).drew,HX.out.four.1,HX.out.four.2.1,HX.out.four.2.2.1,HX.out.four.2.2.2.1⟩))
  ((first
    |(go_at_call 96;go_must(refine(xzzx _ (by omega) _).mono ?_);rintro e w1 ⟨rfl,hb1⟩)
    |(go_at_call 95;go_must(refine(yzep _ _ _).mono ?_);rintro e w1 ⟨rfl,hb1⟩)
    |(go_at_call 94;go_must(refine(xzxh _ _).mono ?_);rintro e w1 ⟨B,rfl,hbox,hB0,hb1⟩)))
 have hB1:Below w2.heap.size w2 w1:=by
  have h:= ‹Below w2.heap.size w2 w1/\_›;exact h.1
 have hres:=HR.out.step hB1;have hBw:Below w.heap.size w w1:=HB.out.trans (hB1.mono HB.out.size);have hTab:=HT.out.step hBw;have HX1:=zd hbox;have HR1:=zd hres;have HB1:=zd hBw;have HT1:=zd hTab;have hpos:=HT.out.pos;clear ‹Below w2.heap.size w2 w1/\_› hbox hres hBw hTab hB1 hb1 hB0 HX HR HB HT;generalize hms:sLess m (sBelow k)=ms at*;have HMS:=zd hms;clear hms;go_wp2;refine(wpIn_wide (n:=3)).1 ?_
 refine wpIn_rangeFunc_ownF rfl (by omega) (gf:=106) (lb:=#[.pointer (some ⟨B,0,none⟩)]) rfl trivial (enters_of Tryz.func106 (by kernel_rfl) rfl)
  (xznb _ (by omega) B w.heap.size hpos ms w1 HX1.out HT1.out) belowK_t (belowK_b (by simpa using HB1.out.size)) (Below.refl _ _) (fun _=>rfl)
  (fun pre W=>pre=[]/\BlkIs W (w.heap.size+1) 3 #[.int .i64 0]/\Below w.heap.size w W)
  (fun c pre W=>c=.ret/\∃ x:B256,pre=[x]/\BlkIs W (w.heap.size+1) 3 #[.int .i64 (x.1:Nat)]/\Below w.heap.size w W) ?hI ?hIx ⟨rfl,HR1.out,HB1.out⟩
  (fun x=>{tmps:=#[setV m,.int .i64 k,.pointer (some ⟨w.heap.size,0,none⟩),undef,.pointer (some ⟨w.heap.size+1,0,none⟩),.int .u8 (x.1:Nat),setV m,.int .i64 k,setV (sBelow k),setV ms,.func (.func 106) #[] #[.pointer (some ⟨B,0,none⟩)],.int .u8 (x.1:Nat),undef,undef],defers:=[]}) ?assign ?body ?done ?stop
 case hI=>
  exact OwnFrom.and (Own.from (fun s A B row hs _ _=>hs) _) (OwnFrom.and (Own.from (fun s A B row hs hg hr=>xzgs hs hg hr) _) (ownFrom_below (Nat.le_refl _) HB1.out.size))
 case hIx=>
  rintro c s A A' row ⟨hc,x,hs,hb,hB⟩ hg hr;exact⟨hc,x,hs,xzgs hb hg (fun r e=>(hr r e).2),ownFrom_below (β:=Unit) (Nat.le_refl _) HB1.out.size () A A' row hB hg hr⟩
 case assign=>
  intro l x W K hK
  gi_wp2
  exact hK
 case body=>
  rintro l pre x W ⟨rfl,hc,hB⟩ _;obtain⟨c0,f0⟩:W.cell? ⟨w.heap.size+1,0,none⟩=some (.int .i64 0)/\W.frozen? ⟨w.heap.size+1,0,none⟩=false:=⟨hc.cell 0,hc.frozen 0⟩;have hx:=x.2
  gi_wp2
  exact⟨KeepsOthers.setCell _ _ _,rfl,x,rfl,by simpa using hc.put 0 (.int .i64 (x.1:Nat)),hB.setCell (p:=⟨w.heap.size+1,0,none⟩) (Nat.le_add_right _ _) _⟩
 case done=>
  rintro D xs W hD hS ⟨rfl,hc,hB⟩ hK;obtain⟨c0,f0⟩:W.cell? ⟨w.heap.size+1,0,none⟩=some (.int .i64 0)/\W.frozen? ⟨w.heap.size+1,0,none⟩=false:=⟨hc.cell 0,hc.frozen 0⟩;go_wp2;have hK':=(KeepsOthers.setCell W ⟨w.heap.size+1,0,none⟩ (.int .i64 (-1))).same D _ hK rfl;refine⟨by simp,.inl ⟨_,_,rfl,run_takeDeferred hK',?_⟩⟩
  have hb':BlkIs (W.setCell ⟨w.heap.size+1,0,none⟩ (.int .i64 (-1))) (w.heap.size+1) 3 #[.int .i64 (-1)]:=by simpa using hc.put 0 (.int .i64 (-1))
  have hb2:=xzgs hb' (grownBy_putObj' _ D (.deferred none)) (fun r e=>by cases e;exact⟨_,hK',rfl⟩);have hl:=xzxi hb2;refine⟨_,xzae (p:=4) (ty:=3) rfl rfl hl,?_,?_⟩
  ·unfold nextS;rw [HMS.out,<-hS];rfl
  ·exact(hB.setCell (p:=⟨w.heap.size+1,0,none⟩) (Nat.le_add_right _ _) _).trans (belowK_b (w:=w) (Nat.le_refl _) _ D _ _ (Nat.le_trans HB1.out.size hD) hK' rfl rfl)
 case stop=>
  rintro D c pre W hD hS ⟨rfl,x,rfl,hc,hB⟩ hK
  gi_wp2
  refine⟨by simp,.inl ⟨_,_,rfl,run_takeDeferred hK,?_⟩⟩;have hb2:=xzgs hc (grownBy_putObj' _ D (.deferred none)) (fun r e=>by cases e;exact⟨_,hK,rfl⟩);have hl:=xzxi hb2;refine⟨_,xzae (p:=4) (ty:=3) rfl rfl hl,?_,?_⟩
  ·obtain⟨r,hr⟩:=hS
   unfold nextS;rw [HMS.out,<-hr];rfl
  ·exact hB.trans (belowK_b (w:=w) (Nat.le_refl _) _ D _ _ (Nat.le_trans HB1.out.size hD) hK rfl rfl)
end
section
open Go.RowKit
def BytesIs (l:List Nat)(w:World):Ending->World->Prop:=fun e w'=>
 ∃ A c,e=.returned (.slice A l.length c)/\ByteRow w' w'.heap.size A l/\Below w.heap.size w w'
theorem info5:(Tryz.prog.info? 5).map (fun i=>(i.zero,i.size,i.bytes))=some (some (.int .u8 0),1,1):=by kernel_rfl
theorem xzrq (m:Nat->Bool)(w:World):(binOp .eql 47 (setV m) (.agg #[.int .u64 0,.int .u64 0,.int .u64 0,.int .u64 0])).run Tryz.prog w=.ok (.bool (setEq m (sOf []))) w:=by
 have h:=xzgp m (sOf []) w;simp only [setV,xzpz]at h;exact h
theorem xzxj (m:Nat->Bool):∀ t,cntN m t=(mems m t).length
 |0=>rfl
 |t+1=>by
  have ih:=xzxj m t
  show cntN m t+(if m t then 1 else 0)=_
  unfold mems at*;rw [List.range_succ,List.filter_append,List.length_append,ih,List.filter_cons]
  cases m t<;>simp
theorem xzke {w:World}{base:Nat}{e:TypeId}{v:Value}{l:List Nat}(h:w.ownsRow base e 1 v l.length (l.map fun(x:Nat)=>Value.int .u8 (x:Int))):
 ∃ A c,v=.slice A l.length c/\ByteRow w w.heap.size A l:=by
 rcases h.2 with⟨rfl,hn⟩|⟨g,cap,cur,rfl,_,hh,_⟩
 ·exact⟨none,0,by rw [hn],fun hne=>absurd (List.eq_nil_of_length_eq_zero hn) hne⟩
 ·refine⟨_,_,rfl,fun _=>⟨g,0,rfl,(Array.getElem?_eq_some_iff.1 hh).1,fun k x hk=>?_⟩⟩
  have hlt:k<l.length:=(List.getElem?_eq_some_iff.1 hk).1;have:=h.cellAt k (by omega);rw [Nat.zero_add,this,List.getElem?_map,hk];rfl
attribute [local go_sem] Oper.semAt_some
set_option maxRecDepth 100000 in
set_option maxHeartbeats 1000000 in
theorem xzxk (m:Nat->Bool)(hm:setEq m (sOf [])=false)(w:World)(hT:Tab w):
 Calls Tryz.prog 105 #[setV m] w (BytesIs (mems m 256) w):=by
 obtain⟨i0,hi,hz0,hz1,hz2⟩:=info_parts info5;have hcl:=xzxj m 256;have hc256:=xzcp m 256;have hcount:=xzzu m;generalize cntN m 256=n at*
 have hmk:∀ u:World,(Instr.makeSlice 150 (.int .i64 0) (.int .i64 (n:Int))).run Tryz.prog u=
  .ok (.slice (some ⟨u.heap.size,0,none⟩) 0 n) (u.alloc (.cells (madeCells #[.int .u8 0] n) 5)):=fun u=>by
  have h:=run_make (P:=Tryz.prog) u 150 5 i0 (.int .u8 0) Tryz.underlying150 hi hz0 .i64 .i64 0 (n:Int) (Int.le_refl _) (by omega) (by rw [hz2];omega) (by omega)
  simpa [hz1,Value.cells]using h
 have HT:=zd hT;have HCL:=zd hcl;have HCO:=zd hcount;have HI0:=zd hi;have hq:=xzrq m;clear hT hcl hcount hi;refine(callsIn_wide (n:=3)).1 ?_;refine callsIn_of_wp_marks Tryz.func105 rfl trivial ?_ rfl;simp only [Tryz.ntmps105,List.size_toArray,List.length_cons,List.length_nil,Nat.reduceAdd,Nat.reduceSub,Array.replicate_succ,Array.replicate_zero,List.push_toArray,List.append_toArray,List.nil_append,List.cons_append];refine wpIn_wide.2 ?_
 go_wp2_with(first
  |(go_at_call 108;go_must(refine(HCO.out _).mono ?_);rintro e w1 ⟨rfl,hb1⟩;obtain⟨hc1,hf1,hz1'⟩:=belowStep (g:=w.heap.size) hb1 (by simp))
  |(go_at_call 94;go_must(refine(xzxh _ _).mono ?_);rintro e w2 ⟨B,rfl,hbox,hB0,hb2⟩))
 have hBw1:Below w.heap.size w w1:=((Below.refl _ _).alloc (Nat.le_refl _) _).trans (hb1.mono (by simp));have hlw:w.heap.size<=w1.heap.size:=hBw1.size;have hBw2:Below w.heap.size w w2:=((hBw1.alloc hlw _).alloc (by simp;omega) _).trans (hb2.mono (by simp;omega));have hT2:=HT.out.step hBw2;have hpos:=HT.out.pos;have hl0:=Boxed.new (w1.alloc (.cells (madeCells #[.int .u8 0] n) 5)) 150 (.slice (some ⟨w1.heap.size,0,none⟩) 0 n);rw [World.size_alloc]at hl0;have hl2:Boxed w2 (w1.heap.size+1) 150 (.slice (some ⟨w1.heap.size,0,none⟩) 0 n):=(hb2.block _ hl0.lt).trans hl0;have hr0:=(World.ownsRow_made (base:=w.heap.size) (e:=5) (size:=1) w1 (madeCells #[.int .u8 0] n) n hlw (by unfold maxLen;omega) (by simp [madeCells])).kept (World.grownBy_alloc _ (.cells #[.slice (some ⟨w1.heap.size,0,none⟩) 0 n] 150) none) (.inr (by simp [Value.ownBlock]));have hr2:w2.ownsRow w.heap.size 5 1 (.slice (some ⟨w1.heap.size,0,none⟩) 0 n) 0 []:=hr0.kept (row:=none) ⟨hb2.os,hb2.tape,hb2.output,hb2.size,fun i hi _=>hb2.block i hi⟩ (.inr (by simp [Value.ownBlock]));have HB:=zd hbox;have HT2:=zd hT2;have HBW:=zd hBw2;have HL:=zd hl2;have HR:=zd hr2;generalize w1.heap.size=G at*;clear hb1 hc1 hf1 hz1' hbox hB0 hb2 hBw1 hBw2 hT2 hl0 hl2 hr0 hr2 HT HCO hmk hq;refine(wpIn_wide (n:=3)).1 ?_
 refine wpIn_rangeFunc_ownG rfl (by omega) (gf:=106) (lb:=#[.pointer (some ⟨B,0,none⟩)]) rfl trivial (enters_of Tryz.func106 (by kernel_rfl) rfl)
  (xznb _ (by omega) B w.heap.size hpos m w2 HB.out HT2.out) belowK_t (belowK_b HBW.out.size) (Below.refl _ _) (fun _=>rfl)
  (fun pre W=>(∃ v,Boxed W (G+1) 150 v/\W.ownsRow w.heap.size 5 1 v pre.length (pre.map fun x=>.int .u8 (x.1:Nat)))/\Below w.heap.size w W)
  (fun _ _ _=>False) ?hI (fun _ _ _ _ _ h _ _=>h) ⟨⟨_,HL.out,HR.out⟩,HBW.out⟩
  (fun x=>{tmps:=#[setV m,.pointer (some ⟨w.heap.size,0,none⟩),.slice none 0 0,.pointer (some ⟨G+1,0,none⟩),.int .u8 (x.1:Nat),setV m,.agg #[.int .u64 0,.int .u64 0,.int .u64 0,.int .u64 0],.bool false,setV m,.int .i64 n,.slice (some ⟨G,0,none⟩) 0 n,setV m,
   .func (.func 106) #[] #[.pointer (some ⟨B,0,none⟩)],.int .u8 (x.1:Nat),undef,undef,undef,undef,undef],defers:=[]}) ?assign ?body ?done ?stop
 case hI=>
  rintro s A A' row ⟨⟨v,hv,hr⟩,hB⟩ hg hro
  have cells:∀ k cs t,A.heap[k]? =some (.cells cs t (0,0))->some k≠row:=fun k cs t hk e=>by
   obtain⟨_,o,ho,hc⟩:=hro k e.symm;rw [hk]at ho;cases ho;cases hc
  refine⟨⟨v,hv.kept hg (cells _ _ _ hv),hr.kept hg ?_⟩,ownFrom_below (β:=Unit) (Nat.le_refl _) HBW.out.size () A A' row hB hg hro⟩
  rcases hr.2 with⟨rfl,_⟩|⟨g,cap,cur,rfl,_,hh,_⟩
  ·exact .inl rfl
  ·exact .inr (cells _ _ _ hh)
 case assign=>
  intro l x W K hK
  gi_wp2
  exact hK
 case body=>
  rintro l pre x W ⟨⟨v,hv,hrow⟩,hB⟩ hlt;have hc:=hv.cell;have hi:=HI0.out
  gi_wp2_with (gi_at_builtin;refine wpListIn_append_own _ rfl _ _ 150 rfl w.heap.size 5 i0 (.int .u8 0) 1 1 Tryz.underlying150 hi hz0 hz1 hz2 rfl (by decide) _ _ _ rfl (hrow.alloc _) ⟨W.heap.size,0,none⟩ 1 1 [.int .u8 (x.1:Nat)] rfl rfl (cell_one_new _ _ _) (by simp [Value.oneCell']) (by unfold maxLen;omega) (by omega) (by have:=hB.size;simp;omega) ?_;intro v' w3 hown' hgrow _;obtain⟨g',cap',rfl⟩:=ownsRow_succ hown';obtain⟨hv1,hv2,hr2,hk2,hb2⟩:=hv.appended (by decide) hrow hB.size (by omega) hown' hgrow;have hc1:=hv1.cell;have hf1:=hv1.frozen)
  exact⟨hk2.from _,hb2,⟨_,hv2,by simpa using hr2⟩,hB.trans hb2⟩
 case done=>
  rintro D xs W hD hS ⟨⟨v,hv,hrow⟩,hB⟩ hK;have hc:=hv.cell;have hrow2:=ownsRow_putObj hrow (.deferred none) hK rfl;have hBe:=hB.trans (belowK_b (w:=w) (Nat.le_refl _) W D _ (.deferred none) (Nat.le_trans HBW.out.size hD) hK rfl rfl);have HRO:=zd hrow2;have HBE:=zd hBe;clear hrow2 hBe hrow hB;go_wp2;refine⟨by simp,.inl ⟨_,_,rfl,run_takeDeferred hK,?_⟩⟩
  have hlen:xs.length=(mems m 256).length:=by rw [<-hS,List.length_map]
  have hmap:(xs.map fun x=>Value.int .u8 (x.1:Nat))=(mems m 256).map fun(x:Nat)=>Value.int .u8 (x:Int):=by rw [<-hS,List.map_map];rfl
  have hro:=HRO.out;rw [hlen,hmap]at hro;obtain⟨A,c,rfl,hrow⟩:=xzke hro;exact⟨_,results_tmp rfl _ _ _,A,c,rfl,hrow,HBE.out⟩
 case stop=>
  rintro D c pre W _ _ h _;exact h.elim
theorem xzxl {m:Nat->Bool}(h:setEq m (sOf [])=true):mems m 256=[]:=by
 have h2:=setEq_iff.1 h;unfold mems;rw [List.filter_eq_nil_iff];intro b hb;rw [h2 b (List.mem_range.1 hb)]
 simp [sOf]
set_option maxHeartbeats 400000 in
theorem xzxm (m:Nat->Bool)(hm:setEq m (sOf [])=true)(w:World):Calls Tryz.prog 105 #[setV m] w (BytesIs (mems m 256) w):=by
 rw [xzxl hm];have hq:=xzrq m
 go_enter Tryz.func105,Tryz.ntmps105
 go_wp2;go_ret;exact⟨none,0,rfl,fun h=>absurd rfl h,(Below.refl _ _).alloc (Nat.le_refl _) _⟩
theorem yzbs (m:Nat->Bool)(w:World)(hT:Tab w):Calls Tryz.prog 105 #[setV m] w (BytesIs (mems m 256) w):=by
 cases hm:setEq m (sOf [])
 ·exact xzxk m hm w hT
 ·exact xzxm m hm w
end
section
open Go.RowKit
theorem xzoz (m:Nat->Bool)(k:Nat):(mems m k).length<=k:=by
 have:=List.length_filter_le m (List.range k);rw [List.length_range]at this;exact this
end
section
open Go.RowKit
end
section
open Go.RowKit
theorem ByteRow.keep {w w':World}{B:Nat}{A:Option Addr}{l:List Nat}(h:ByteRow w B A l)(hB:B<=w.heap.size)(hb:Below w.heap.size w w'):ByteRow w' B A l:=fun hl=>by
 obtain⟨b,off,rfl,hlt,hc⟩:=h hl;refine⟨b,off,rfl,hlt,fun k x hk=>?_⟩;rw [hb.cell (by show b<w.heap.size;omega)];exact hc k x hk
theorem ByteRow.far {w:World}{B:Nat}{A:Option Addr}{l:List Nat}(h:ByteRow w B A l){p:Addr}(hp:B<=p.block)(v:Value):ByteRow (w.setCell p v) B A l:=fun hl=>by
 obtain⟨b,off,rfl,hlt,hc⟩:=h hl;refine⟨b,off,rfl,hlt,fun k x hk=>?_⟩;rw [(Below.refl B w).setCell hp v |>.cell (by exact hlt)];exact hc k x hk
theorem ByteRow.wide {w:World}{B B':Nat}{A:Option Addr}{l:List Nat}(h:ByteRow w B A l)(hB:B<=B'):ByteRow w B' A l:=fun hl=>by
 obtain⟨b,off,rfl,hlt,hc⟩:=h hl;exact⟨b,off,rfl,by omega,hc⟩
end
section
open Go.RowKit
section
variable {ops : Array Oper} {rest : List Oper} {op : Oper} {a : Act} {w : World} {Q : Exit → Act → World → Prop} {g : Nat} {t : TypeId} {f : Nat → Nat} {n : Int} {R : Nat → Nat}
theorem xzij (hgd:op.guard=none)(x:Operand)(ho:op.op=.load 34 x)(hx:a.eval x=.pointer (some ⟨g,0,none⟩))(h:BlkIs w g t (clsC f n))
 (hK:wpList Tryz.prog ops Q rest (a.put op.dst (.agg (ofC f))) w):wpList Tryz.prog ops Q (op::rest) a w:=
 wpList_load_mid hgd 34 x ho g 0 hx (ofC f).toList _ (rangeO h) Tryz.underlying34 rfl (by rw [infoO,Array.length_toList,xzoy]) (by rw [Array.toArray_toList];exact hK)
theorem xzbs (hgd:op.guard=none)(x:Operand)(ho:op.op=.load 36 x)(hx:a.eval x=.pointer (some ⟨g,0,none⟩))(h:BlkIs w g t (clsC f n))
 (hK:wpList Tryz.prog ops Q rest (a.put op.dst (.agg (clsC f n))) w):wpList Tryz.prog ops Q (op::rest) a w:=
 wpList_load_mid hgd 36 x ho g 0 hx (clsC f n).toList _ h.range Tryz.underlying36 rfl (by rw [infoC,Array.length_toList,xzaj]) (by rw [Array.toArray_toList];exact hK)
theorem xzpa (hgd:op.guard=none)(x:Operand)(ho:op.op=.load 142 x)(hx:a.eval x=.pointer (some ⟨g,0,none⟩))(h:BlkIs w g t (rowC R))
 (hK:wpList Tryz.prog ops Q rest (a.put op.dst (.agg (rowC R))) w):wpList Tryz.prog ops Q (op::rest) a w:=
 wpList_load_mid hgd 142 x ho g 0 hx (rowC R).toList _ h.range Tryz.underlying142 rfl (by rw [infoW,Array.length_toList,xzdr]) (by rw [Array.toArray_toList];exact hK)
def Wrote (g:Nat)(w w':World):Prop:=(∀ k,k≠g->w'.heap[k]? =w.heap[k]?)/\(∀ B W0,B<=g->Below B W0 w->Below B W0 w')/\w'.heap.size=w.heap.size
theorem Wrote.blk {w w':World}{k:Nat}{cs:Array Value}(h:Wrote g w w')(hk:k≠g)(hb:BlkIs w k t cs):BlkIs w' k t cs:=(h.1 k hk).trans hb
theorem Wrote.cell (w:World)(g i:Nat)(v:Value):Wrote g w (w.setCell ⟨g,i,none⟩ v):=
 ⟨fun k hk=>Below.heap_setCell w ⟨g,i,none⟩ v k hk,fun _ _ hB h=>h.setCell (p:=⟨g,i,none⟩) hB v,World.size_setCell _ _ _⟩
theorem Wrote.trans {w1 w2 w3:World}(h:Wrote g w1 w2)(h':Wrote g w2 w3):Wrote g w1 w3:=
 ⟨fun k hk=>(h'.1 k hk).trans (h.1 k hk),fun B W0 hB hb=>h'.2.1 B W0 hB (h.2.1 B W0 hB hb),h'.2.2.trans h.2.2⟩
theorem Wrote.refl (g:Nat)(w:World):Wrote g w w:=⟨fun _ _=>rfl,fun _ _ _ h=>h,rfl⟩
theorem Wrote.cells (g:Nat):∀ (vs:List Value) (o:Nat) (w:World),Wrote g w (w.setCells g o vs)
 |[],_,w=>Wrote.refl g w
 |v::r,o,w=>by
  rw [World.setCells];exact(Wrote.cell w g o v).trans (Wrote.cells g r (o+1) _)
theorem xzam (hgd:op.guard=none)(ty:TypeId)(x y:Operand)(ho:op.op=.store ty x y)(hx:a.eval x=.pointer (some ⟨g,0,none⟩)){cs new:Array Value}(hy:a.eval y=.agg new)
 (h:BlkIs w g t cs)(hs:new.size=cs.size)(hi:(Tryz.prog.info? ty).map (·.size)=some new.size)(h1:new.all (·.oneCell')=true)
 (hK:∀ w',BlkIs w' g t new->Wrote g w w'->wpList Tryz.prog ops Q rest (a.put op.dst undef) w'):wpList Tryz.prog ops Q (op::rest) a w:=
 wpList_store_mid hgd ty x y ho g 0 new hx hy (by rw [hs];exact h.there) hi h1 (hK _ (h.fill hs) (Wrote.cells g _ 0 w))
end
set_option maxRecDepth 100000 in
set_option maxHeartbeats 1000000 in
theorem xznc (f:Nat->Nat)(n:Int)(hf:∀ b,b<256->f b<256)(w:World):
 Calls Tryz.prog 48 #[.agg (clsC f n)] w fun e w'=>e=.returned (.bool (mayB f n))/\Below w.heap.size w w':=by
 have hb:=BlkIs.new w 36 (clsC f n);have hn:=(hb.cell 256).trans (yzbq f n);have hB:=(Below.refl w.heap.size w).alloc (Nat.le_refl _) (.cells (clsC f n) 36);have HB:=zd hb;have HF:=zd hf;have HBe:=zd hB;clear hb hf hB
 go_enter Tryz.func48,Tryz.ntmps48
 go_wp2_with(refine xzij rfl (.tmp 6) rfl rfl HB.out ?_)
 go_loop [3,8] (fun a i=>∃ k c:Nat,k<=256/\c<=256/\a=.int .i64 c/\i=.int .i64 k/\Hid (c=cnt f k/\MayTo f k)) (fun _ i=>256 - (intOf i).toNat)
 case atStart=>exact⟨0,0,by omega,by omega,rfl,rfl,zd ⟨rfl,fun b h=>absurd h (by omega)⟩⟩
 case round=>
  obtain⟨k,c,hk,hc,rfl,rfl,HH⟩:=hrel
  by_cases hlt:k<256
  ·have hix:=idxO f hlt (w.alloc (.cells (clsC f n) 36))
   have hfk:=HF.out k hlt
   have hw:IntKind.i64.wrap ((f k:Nat):Int)=(f k:Nat):=by rw [IntKind.wrap_i64];omega
   rcases Nat.lt_trichotomy (f k) c with h1|h1|h1
   ·have d1:decide (((c:Nat):Int)<((f k:Nat):Int))=false:=decide_eq_false (by omega)
    have d2:(((f k:Nat):Int)==((c:Nat):Int))=false:=by simp;omega
    have hs:=yzbp HH.out.2 (by rw [<-HH.out.1];exact h1);have HS:=zd hs;clear hs;go_wp2;exact⟨⟨k+1,c,by omega,hc,rfl,by go_num,zd ⟨by rw [HS.out.2];exact HH.out.1,HH.out.2.succ HS.out.1⟩⟩,by simp [intOf];omega⟩
   ·have d1:decide (((c:Nat):Int)<((f k:Nat):Int))=false:=decide_eq_false (by omega)
    have d2:(((f k:Nat):Int)==((c:Nat):Int))=true:=by simp;omega
    have hs:=yzbo HH.out.2 (by rw [<-HH.out.1];exact h1);have HS:=zd hs;clear hs;go_wp2;exact⟨⟨k+1,c+1,by omega,by omega,by go_num,by go_num,zd ⟨by rw [HS.out.2,HH.out.1],HH.out.2.succ HS.out.1⟩⟩,by simp [intOf];omega⟩
   ·have d1:decide (((c:Nat):Int)<((f k:Nat):Int))=true:=decide_eq_true (by omega)
    have hs:=yzgg (n:=n) hlt (xzxe (by rw [<-HH.out.1];exact h1));have HS:=zd hs;clear hs;go_wp2;go_ret;exact⟨xzfy HS.out.symm,HBe.out⟩
  ·obtain rfl:k=256:=by omega
   have hs:=yzgf (n:=n) HH.out.2;rw [<-HH.out.1]at hs;have HS:=zd hs;clear hs;go_wp2;go_ret;refine⟨xzfy ?_,HBe.out⟩;rw [HS.out,Bool.eq_iff_iff];simp
end
section
open Go.RowKit
def rowP (f:Nat->Bool)(k:Nat):Value:=.int .u64 (wd f k:Nat)
def BlkF (W:World)(g:Nat)(t:TypeId)(N:Nat)(F:Nat->Value):Prop:=BlkIs W g t (cellsN N F)
def HasRow (N:Nat)(F:Nat->Value)(o:Nat)(f:Nat->Bool):Prop:=o+32<=N/\∀ k,k<32->F (o+k)=rowP f k
def putV (F:Nat->Value)(i:Nat)(v:Value):Nat->Value:=fun j=>if j=i then v else F j
theorem BlkF.cell {W:World}{g:Nat}{t:TypeId}{N:Nat}{F:Nat->Value}(h:BlkF W g t N F){i:Nat}(hi:i<N):W.cell? ⟨g,i,none⟩=some (F i):=by
 rw [BlkIs.cell h,xzbx _ hi]
theorem BlkF.put {W:World}{g:Nat}{t:TypeId}{N:Nat}{F:Nat->Value}(h:BlkF W g t N F)(i:Nat)(v:Value):BlkF (W.setCell ⟨g,i,none⟩ v) g t N (putV F i v):=by
 have:=BlkIs.put h i v;rw [xzfr]at this;exact this
def plus (f:Nat->Bool)(p:Nat):Nat->Bool:=fun q=>f q||decide (q=p)
theorem xzkf (f:Nat->Bool){p k:Nat}(h:k≠p / 64):wd (plus f p) k=wd f k:=by
 apply xzbg
 intro j hj;unfold plus;have:decide (64*k+j=p)=false:=decide_eq_false (by omega);rw [this,Bool.or_false]
theorem Wrote.drew {g:Nat}{w w':World}(h:Wrote g w w'):Wrote g w w'.drew:=⟨h.1,fun B W0 hB hb=>(h.2.1 B W0 hB hb).drew,h.2.2⟩
def RowAt (W:World)(g o:Nat)(f:Nat->Bool):Prop:=∀ k,k<32->W.cell? ⟨g,o+k,none⟩=some (rowP f k)
def rowA (f:Nat->Bool):Array Value:=cellsN 32 (rowP f)
theorem xzav (f:Nat->Bool):(rowA f).size=32:=xzaw _ _
theorem xzgi (f:Nat->Bool){k:Nat}(h:k<32):(rowA f)[k]? =some (rowP f k):=xzbx _ h
theorem xzgj (f:Nat->Bool):(rowA f).all (·.oneCell')=true:=xzfs fun _=>rfl
theorem xznd {f f':Nat->Bool}(h:∀ p,p<2048->f p=f' p):rowA f=rowA f':=xzao fun i hi=>by
 unfold rowP;rw [xzbg fun j hj=>h _ (by omega)]
theorem infoRw:(Tryz.prog.info? 65).map (·.size)=some 32:=by kernel_rfl
theorem infoWs:(Tryz.prog.info? 63).map (·.size)=some 32:=by kernel_rfl
theorem RowAt.range {W:World}{g o:Nat}{f:Nat->Bool}(h:RowAt W g o f):W.rangeAt g o (rowA f).toList:=fun j v hv=>by
 have hj:j<32:=by have:=(List.getElem?_eq_some_iff.1 hv).1;rw [Array.length_toList,xzav]at this;exact this
 rw [h j hj];rw [Array.getElem?_toList,xzgi f hj]at hv;exact hv
theorem BlkF.row {W:World}{g:Nat}{t:TypeId}{N o:Nat}{F:Nat->Value}{f:Nat->Bool}(h:BlkF W g t N F)(hr:HasRow N F o f):RowAt W g o f:=fun k hk=>by
 rw [h.cell (by have:=hr.1;omega),hr.2 k hk]
theorem RowAt.heap {W W':World}{g o:Nat}{f:Nat->Bool}(h:RowAt W g o f)(e:W'.heap[g]? =W.heap[g]?):RowAt W' g o f:=fun k hk=>by
 rw [<-h k hk];unfold World.cell?;simp only [e]
theorem RowAt.step {W W':World}{g o:Nat}{f:Nat->Bool}(h:RowAt W g o f)(hb:Below W.heap.size W W'):RowAt W' g o f:=fun k hk=>by
 have hlt:g<W.heap.size:=World.block_lt_of_cell? W ⟨g,o+k,none⟩ (h k hk);exact(hb.cell (p:=⟨g,o+k,none⟩) hlt).trans (h k hk)
section
variable {ops : Array Oper} {rest : List Oper} {op : Oper} {a : Act} {w : World} {Q : Exit → Act → World → Prop} {g o : Nat} {f : Nat → Bool}
theorem xzei (hgd:op.guard=none)(x:Operand)(ho:op.op=.load 63 x)(hx:a.eval x=.pointer (some ⟨g,o,none⟩))(h:RowAt w g o f)
 (hK:wpList Tryz.prog ops Q rest (a.put op.dst (.agg (rowA f))) w):wpList Tryz.prog ops Q (op::rest) a w:=
 wpList_load_mid hgd 63 x ho g o hx (rowA f).toList _ h.range Tryz.underlying63 rfl (by rw [infoWs,Array.length_toList,xzav]) (by rw [Array.toArray_toList];exact hK)
theorem xzcg (hgd:op.guard=none)(x:Operand)(ho:op.op=.load 65 x)(hx:a.eval x=.pointer (some ⟨g,o,none⟩))(h:RowAt w g o f)
 (hK:wpList Tryz.prog ops Q rest (a.put op.dst (.agg (rowA f))) w):wpList Tryz.prog ops Q (op::rest) a w:=
 wpList_load_mid hgd 65 x ho g o hx (rowA f).toList _ h.range Tryz.underlying65 rfl (by rw [infoRw,Array.length_toList,xzav]) (by rw [Array.toArray_toList];exact hK)
theorem loadRw (h:RowAt w g o f):(Instr.loadAt 65 (.pointer (some ⟨g,o,none⟩))).run Tryz.prog w=.ok (.agg (rowA f)) w:=by
 have:=run_loadAt_mid (P:=Tryz.prog) w g o 65 (rowA f).toList _ h.range Tryz.underlying65 rfl (by rw [infoRw,Array.length_toList,xzav]);rw [this]
theorem loadVarRw (h:RowAt w g o f):(loadVar 65 ⟨g,o,none⟩).run Tryz.prog w=.ok (.agg (rowA f)) w:=by
 have:=run_loadVar_mid (P:=Tryz.prog) w g o 65 (rowA f).toList _ h.range Tryz.underlying65 rfl (by rw [infoRw,Array.length_toList,xzav]);rw [this]
end
theorem part59 {xs:Array Value}{off:Nat}{v:Value}(hx:xs[off]? =some v)(w:World):(part 45 xs off).run Tryz.prog w=.ok v w:=run_part_plain w (by kernel_rfl) hx
theorem idxRw (f:Nat->Bool){k:Nat}(hk:k<32)(w:World):(Instr.index 63 (.agg (rowA f)) (.int .i64 k)).run Tryz.prog w=.ok (rowP f k) w:=by
 have hs:(sizeOf 45).run Tryz.prog w=.ok 1 w:=by kernel_rfl
 have hp:=part59 (xzgi f hk) w
 simp [Instr.index,run_underlying Tryz.underlying63,asIntOf,hs,hp,hk]
set_option maxRecDepth 20000 in
set_option maxHeartbeats 2000000 in
theorem xzik (g o N:Nat)(t:TypeId)(F:Nat->Value)(f:Nat->Bool)(p:Nat)(w:World)(hb:BlkF w g t N F)(hr:HasRow N F o f)(hp:p<2048):
 Calls Tryz.prog 73 #[.pointer (some ⟨g,o,none⟩),.int .i64 p] w fun e w'=>e=.returned (.tuple #[])/\BlkF w' g t N (putV F (o+p / 64) (rowP (plus f p) (p / 64)))/\Wrote g w w':=by
 have hc:=hb.cell (i:=o+p / 64) (by have:=hr.1;omega);rw [hr.2 (p / 64) (by omega)]at hc;unfold rowP at hc;have hfz:=BlkIs.frozen hb (o+p / 64)
 go_enter Tryz.func73,Tryz.ntmps73
 go_wp2_with fail
 go_region
 go_wp2;rw [xzss (m:=f) (m':=plus f p) (x:=p) (i:=p / 64) (fun b=>rfl) rfl]
 go_end0
 exact⟨rfl,(BlkF.put hb _ _),Wrote.drew (Wrote.cell w g _ _)⟩
theorem and_bit (f:Nat->Bool)(p:Nat):(wd f (p / 64)>>>(p%64))%2=(if f p then 1 else 0):=by
 have h:=xzat f (p / 64) (p%64);rw [show 64*(p / 64)+p%64=p by omega,decide_eq_true (show p%64<64 by omega),Bool.true_and]at h;rw [Nat.testBit,Nat.one_and_eq_mod_two]at h
 cases hf:f p
 ·rw [hf]at h;simp only [bne_eq_false_iff_eq]at h;rw [h];rfl
 ·rw [hf]at h;simp only [bne_iff_ne,ne_eq]at h
  simp only [if_true];omega
theorem yzgm (f:Nat->Bool)(p:Nat):(bits .and .u64 (((wd f (p / 64):Nat):Int) / 2^(p%64)) 1==1)=f p:=by
 have e:(((wd f (p / 64):Nat):Int) / 2^(p%64))=((wd f (p / 64)>>>(p%64):Nat):Int):=by
  rw [Nat.shiftRight_eq_div_pow,Int.natCast_ediv,Int.natCast_pow];rfl
 have hl:=xzgv f (p / 64)
 have hle:wd f (p / 64)>>>(p%64)<18446744073709551616:=by
  rw [Nat.shiftRight_eq_div_pow];exact Nat.lt_of_le_of_lt (Nat.div_le_self _ _) hl
 have h:=u64_and_nat (wd f (p / 64)>>>(p%64)) 1 hle (by decide);rw [e,show(1:Int)=((1:Nat):Int)from rfl,h,Nat.and_one_is_mod,and_bit]
 cases f p<;>rfl
set_option maxRecDepth 20000 in
set_option maxHeartbeats 2000000 in
theorem xzil (g o:Nat)(f:Nat->Bool)(p:Nat)(w:World)(hr:RowAt w g o f)(hp:p<2048):
 Calls Tryz.prog 77 #[.pointer (some ⟨g,o,none⟩),.int .i64 p] w fun e w'=>e=.returned (.bool (f p))/\w'=w:=by
 have hc:=hr (p / 64) (by omega);unfold rowP at hc;clear hr
 go_enter Tryz.func77,Tryz.ntmps77
 go_wp2;rw [yzgm];go_ret;exact⟨rfl,rfl⟩
def joinF (F:Nat->Value)(o:Nat)(f:Nat->Bool)(k:Nat):Nat->Value:=fun i=>if o<=i/\i<o+k then rowP f (i - o)else F i
theorem yzbt (F:Nat->Value)(o:Nat)(f:Nat->Bool)(k:Nat):putV (joinF F o f k) (o+k) (rowP f k)=joinF F o f (k+1):=by
 funext i;unfold putV joinF
 by_cases h:i=o+k
 ·subst h;rw [if_pos rfl,if_pos (by omega),show o+k - o=k by omega]
 ·rw [if_neg h]
  by_cases h2:o<=i/\i<o+k
  ·rw [if_pos h2,if_pos (by omega)]
  ·rw [if_neg h2,if_neg (by omega)]
theorem xzxn (F:Nat->Value)(o:Nat)(f:Nat->Bool):joinF F o f 0=F:=by
 funext i;unfold joinF;rw [if_neg (by omega)]
theorem yzgn (F:Nat->Value)(o:Nat)(f:Nat->Bool)(k:Nat):joinF F o f k (o+k)=F (o+k):=by
 unfold joinF;rw [if_neg (by omega)]
set_option maxRecDepth 20000 in
set_option maxHeartbeats 2000000 in
theorem xztu (g o N:Nat)(t:TypeId)(F:Nat->Value)(f f2:Nat->Bool)(g2 o2:Nat)(w:World)(hb:BlkF w g t N F)(hr:HasRow N F o f)(h2:RowAt w g2 o2 f2):
 Calls Tryz.prog 78 #[.pointer (some ⟨g,o,none⟩),.pointer (some ⟨g2,o2,none⟩)] w fun e w'=>e=.returned (.tuple #[])/\BlkF w' g t N (joinF F o (sOr f f2) 32)/\Wrote g w w':=by
 have HR2:=zd h2;have HB:=zd (And.intro hb hr);clear hb hr h2
 go_enter Tryz.func78,Tryz.ntmps78
 go_wp2_with(refine xzei rfl _ rfl rfl HR2.out ?_)
 go_loopw [4,5,10] (fun _ _ i wr=>∃ k:Nat,i=.int .i64 k/\k<=32/\Hid (BlkF wr g t N (joinF F o (sOr f f2) k)/\Wrote g w wr)) (fun _ _ i _=>32 - (intOf i).toNat)
 case atStart=>exact⟨0,rfl,by decide,zd ⟨by rw [xzxn];exact HB.out.1,Wrote.refl g w⟩⟩
 case round=>
  obtain⟨k,rfl,hk,HH⟩:=hrel
  by_cases hp:k<32
  ·have hk1:IntKind.i64.wrap ((k:Int)+1)=((k+1:Nat):Int):=by rw [IntKind.wrap_i64];omega
   have hdl:decide ((k:Int)<32)=true:=by simp;omega
   have hix:=fun u=>idxRw f2 hp u
   have hc:=BlkF.cell HH.out.1 (i:=o+k) (by have:=HB.out.2.1;omega);rw [yzgn,HB.out.2.2 k hp]at hc;have hfz:=BlkIs.frozen HH.out.1 (o+k);unfold rowP at hc hix;have hor:=xzlq f f2 k
   go_wp2_with fail
   go_region
   have HN:=zd (show BlkF (wr.setCell ⟨g,o+k,none⟩ (.int .u64 (wd (sOr f f2) k:Nat))).drew g t N (joinF F o (sOr f f2) (k+1))/\Wrote g w (wr.setCell ⟨g,o+k,none⟩ (.int .u64 (wd (sOr f f2) k:Nat))).drew from⟨by rw [<-yzbt];exact HH.out.1.put _ _,HH.out.2.trans (Wrote.drew (Wrote.cell _ _ _ _))⟩);go_wp2;exact⟨⟨k+1,rfl,by omega,HN⟩,by simp [intOf];omega⟩
  ·have hdl:decide ((k:Int)<32)=false:=by simp;omega
   obtain rfl:k=32:=by omega
   go_wp2
   go_end0
   exact⟨rfl,HH.out⟩
end
section
open Go.RowKit
structure MkV where
 of:Nat->Nat
 n:Nat
 next:Value
 tag:Value
 v0:Value
 v1:Value
 v2:Value
 v3:Value
 v4:Value
 em:Int
 fol:Value
 tak:Value
 sts:Value
 nums:Value
 reach:Nat->Bool
def mkF (D:MkV)(i:Nat):Value:=
 if i<256 then .int .u8 (D.of i)else
 if i=256 then .int .i64 (D.n:Nat)else
 if i=257 then D.next else
 if i=258 then D.tag else
 if i=259 then D.v0 else
 if i=260 then D.v1 else
 if i=261 then D.v2 else
 if i=262 then D.v3 else
 if i=263 then D.v4 else
 if i=264 then .int .i64 D.em else
 if i=265 then D.fol else
 if i=266 then D.tak else
 if i=267 then D.sts else
 if i=268 then D.nums else rowP D.reach (i - 269)
theorem yzgo (D:MkV):HasRow 301 (mkF D) 269 D.reach:=by
 refine⟨by decide,fun k hk=>?_⟩;unfold mkF
 repeat rw [if_neg (by omega)]
 rw [show 269+k - 269=k by omega]
theorem put_nx (D:MkV)(v:Value):putV (mkF D) 257 v=mkF {D with next:=v}:=by
 funext i;unfold putV;by_cases h:i=257
 ·subst h;rfl
 ·rw [if_neg h];unfold mkF;simp only [if_neg h]
theorem put_tg (D:MkV)(v:Value):putV (mkF D) 258 v=mkF {D with tag:=v}:=by
 funext i;unfold putV;by_cases h:i=258
 ·subst h;rfl
 ·rw [if_neg h];unfold mkF;simp only [if_neg h]
theorem put_fo (D:MkV)(v:Value):putV (mkF D) 265 v=mkF {D with fol:=v}:=by
 funext i;unfold putV;by_cases h:i=265
 ·subst h;rfl
 ·rw [if_neg h];unfold mkF;simp only [if_neg h]
theorem put_ta (D:MkV)(v:Value):putV (mkF D) 266 v=mkF {D with tak:=v}:=by
 funext i;unfold putV;by_cases h:i=266
 ·subst h;rfl
 ·rw [if_neg h];unfold mkF;simp only [if_neg h]
theorem put_st (D:MkV)(v:Value):putV (mkF D) 267 v=mkF {D with sts:=v}:=by
 funext i;unfold putV;by_cases h:i=267
 ·subst h;rfl
 ·rw [if_neg h];unfold mkF;simp only [if_neg h]
theorem yzbu (D:MkV)(p:Nat)(hp:p<2048):putV (mkF D) (269+p / 64) (rowP (plus D.reach p) (p / 64))=mkF {D with reach:=plus D.reach p}:=by
 funext i;unfold putV;by_cases h:i=269+p / 64
 ·subst h
  rw [if_pos rfl];unfold mkF
  repeat rw [if_neg (by omega)]
  rw [show 269+p / 64 - 269=p / 64 by omega]
 ·rw [if_neg h];unfold mkF
  by_cases h2:i<269
  ·have:i<256\/i=256\/i=257\/i=258\/i=259\/i=260\/i=261\/i=262\/i=263\/i=264\/i=265\/i=266\/i=267\/i=268:=by omega
   rcases this with h|rfl|rfl|rfl|rfl|rfl|rfl|rfl|rfl|rfl|rfl|rfl|rfl|rfl
   ·simp only [if_pos h]
   all_goals rfl
  ·repeat rw [if_neg (by omega)]
   unfold rowP;rw [xzkf _ (by omega)]
theorem xzap {W:World}{g:Nat}{t:TypeId}{D:MkV}(h:BlkF W g t 301 (mkF D)):
 W.cell? ⟨g,256,none⟩=some (.int .i64 (D.n:Nat))/\W.cell? ⟨g,257,none⟩=some D.next/\W.cell? ⟨g,258,none⟩=some D.tag/\
 W.cell? ⟨g,259,none⟩=some D.v0/\W.cell? ⟨g,260,none⟩=some D.v1/\W.cell? ⟨g,261,none⟩=some D.v2/\W.cell? ⟨g,262,none⟩=some D.v3/\W.cell? ⟨g,263,none⟩=some D.v4/\W.cell? ⟨g,264,none⟩=some (.int .i64 D.em)/\
 W.cell? ⟨g,265,none⟩=some D.fol/\W.cell? ⟨g,266,none⟩=some D.tak/\W.cell? ⟨g,267,none⟩=some D.sts/\W.cell? ⟨g,268,none⟩=some D.nums:=
 ⟨h.cell (by decide),h.cell (by decide),h.cell (by decide),h.cell (by decide),h.cell (by decide),h.cell (by decide),h.cell (by decide),h.cell (by decide),h.cell (by decide),h.cell (by decide),h.cell (by decide),h.cell (by decide),h.cell (by decide)⟩
end
end Go.Proofs.YtgbljnnmhmlifaaGreatDoor
