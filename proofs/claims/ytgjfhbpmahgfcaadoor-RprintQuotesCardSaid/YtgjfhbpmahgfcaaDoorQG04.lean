/-
 WHAT THE ITERATOR OF PACKAGE octs TELLS: the bytes of a set, rising: its contract, for every loop body that keeps what lay there. Condition: the table of math/bits lies as it is laid.
-/
import Derived.RangeFuncNested
import Derived.RangeFuncBound
import Derived.RangeFuncCalls
import Derived.RangeFuncLeaves
import Derived.Shelf.Abstract
import Derived.Shelf.RegionOpen
import Derived.WalkKit
import Derived.OwnWalkIn
import Derived.TacticsInMore
import Derived.LoopNIn
import Derived.LoopIn
import Derived.RangeFuncBox
import Derived.Test.YtgjfhbpmahgfcaaDoorCards
import Derived.Test.YtgjfhbpmahgfcaaDoorTie
import Derived.ChangeSlices
import Derived.ProofKit
import Derived.OpenShut
import Derived.Deep.DeepHandedRow
import Derived.Lib.LaidTab
import Derived.Lib.TrailingZeros
import Derived.Lib.ItoaNum
import Derived.ChangeMaps5
import Derived.Shelf.Strings.Builder1
import Derived.Shelf.Strings.Builder2
import Derived.Shelf.Strings.OnBuilder
import Derived.Shelf.Strconv.Itoa0
import Derived.Shelf.Strconv.Itoa1
import Derived.Shelf.LaysM
import Derived.Shelf.Strconv.Itoa2
import Derived.Shelf.Strconv.Itoa3
import Derived.Test.YtgjfhbpmahgfcaaDoorProg
import Derived.Test.YtgjfhbpmahgfcaaDoorRows
import Derived.Lib.Hide
import Derived.Deep.SlicePairs
import Derived.Test.YtgjfhbpmahgfcaaDoorQG02
import Derived.Test.YtgjfhbpmahgfcaaDoorQG03
import Derived.Test.YtgjfhbpmahgfcaaDoorQG01
namespace Go.Proofs.YtgjfhbpmahgfcaaDoor
open Go.RowKit
def Tab (w:World):Prop:=∀ j,j<64->w.cell? ⟨2,j,none⟩=some (.int .u8 (Lib.deBruijn64tab.getD j 0:Nat))
theorem Tab.below {B:Nat}{w w':World}(h:Tab w)(hb:Below B w w')(hB:2<B):Tab w':=fun j hj=>(hb.cell (p:=⟨2,j,none⟩) hB).trans (h j hj)
theorem Tab.pos {w:World}(h:Tab w):2<w.heap.size:=World.block_lt_of_cell? w _ (h 0 (by decide))
theorem Tab.step {w w':World}(h:Tab w)(hb:Below w.heap.size w w'):Tab w':=h.below hb h.pos
set_option maxHeartbeats 1000000 in
theorem tz_core (x k idx:Nat)(w:World)(hx0:((x:Int)==0)=false)
 (key:IntKind.u64.wrap (bits BinOp.and IntKind.u64 (x:Int) (IntKind.u64.wrap (-(x:Int)))*285870213051353865) / 288230376151711744=(idx:Int))
 (hi:idx<64)(hk:k<64)(hcell:w.cell? ⟨2,idx,none⟩=some (.int .u8 k)):
 Calls Tryd.prog 96 #[.int .u64 x] w fun e w'=>e=.returned (.int .i64 k)/\w'=w:=by
 go_enter Tryd.func96,Tryd.ntmps96
 go_wp2_with(simp only [key])
 go_ret;exact⟨rfl,rfl⟩
theorem tz_key (x a:Nat)(hx:x<18446744073709551616)(hx0:x≠0)(hlow:x&&& (18446744073709551616 - x)=a):
 IntKind.u64.wrap (bits BinOp.and IntKind.u64 (x:Int) (IntKind.u64.wrap (-(x:Int)))*285870213051353865) / 288230376151711744=((a*285870213051353865%18446744073709551616 / 288230376151711744:Nat):Int):=by
 have e1:IntKind.u64.wrap (-(x:Int))=((18446744073709551616 - x:Nat):Int):=by rw [IntKind.wrap_u64];omega
 rw [e1,u64_and_nat x _ hx (by omega),hlow,IntKind.wrap_u64];omega
theorem tz_any (x:Nat)(hx:x<18446744073709551616)(hx0:x≠0)(w:World)(hT:Tab w):
 Calls Tryd.prog 96 #[.int .u64 x] w fun e w'=>e=.returned (.int .i64 (Lib.ctz 64 x:Nat))/\w=w':=by
 obtain⟨hlow,hk⟩:=Lib.lowest_bit 64 x hx0 (by simpa using hx);obtain⟨hi,htab⟩:=Lib.deBruijn64_at _ hk;have hcell:=hT _ hi;rw [htab]at hcell
 exact(tz_core x _ _ w (by simp;omega) (tz_key x _ hx hx0 hlow) hi hk hcell).mono fun _ _ h=>⟨h.1,h.2.symm⟩
abbrev B256:={x:Nat // x<256}
theorem idx_any (m:Nat->Bool)(i:Nat)(hi:i<4)(w:World):(Instr.index 30 (setV m) (.int .i64 (i:Nat))).run Tryd.prog w=.ok (.int .u64 (wd m i:Nat)) w:=by
 have h:=xzes m w
 have hc:i=0\/i=1\/i=2\/i=3:=by omega
 rcases hc with rfl|rfl|rfl|rfl
 ·exact h.1
 ·exact h.2.1
 ·exact h.2.2.1
 ·exact h.2.2.2
attribute [local go_sem] Oper.semAt_some
set_option maxHeartbeats 1000000 in
theorem xzlc (n:Nat)(hn:1<=n)(l Bs n₀:Nat)(hn0:2<n₀)(m:Nat->Bool)(J Jx:List B256->World->Prop)
 (hY:∀ pre (x:B256) W,J pre W->pre.length<256->YieldAt Fence.wide (n - 1) Tryd.prog l #[.int .u8 x.1] W fun e W'=>
  (e=.returned (.bool true)/\J (pre++[x]) W'/\Below n₀ W W')\/(e=.returned (.bool false)/\Jx (pre++[x]) W'))
 (W:World)(hbox:BlkIs W Bs 30 #[.int .u64 (wd m 0:Nat),.int .u64 (wd m 1:Nat),.int .u64 (wd m 2:Nat),.int .u64 (wd m 3:Nat)])(hT:Tab W)(h0:J [] W):
 CallsIn Fence.wide n Tryd.prog 98 #[.func (.yield l) #[] #[],.pointer (some ⟨Bs,0,none⟩)] W fun e W'=>(∃ v,e=.returned v)/\
  ((∃ xs:List B256,xs.map (·.1)=mems m 256/\J xs W')\/(∃ pre:List B256,pre.map (·.1)<+:mems m 256/\Jx pre W')):=by
 obtain⟨c0,c1,c2,c3,_⟩:=hbox.four;have HY:=zd hY;have HT:=zd hT;have HJ:=zd h0;have HI:=zd (idx_any m);clear hbox hY hT h0;refine callsIn_of_wp Tryd.func98 rfl trivial ?_ rfl;simp only [Tryd.ntmps98,List.size_toArray,List.length_cons,List.length_nil,Nat.reduceAdd,Nat.reduceSub,Array.replicate_succ,Array.replicate_zero,List.push_toArray,List.append_toArray,List.nil_append,List.cons_append]
 gi_wp2
 clear c0 c1 c2 c3
 gi_loopw [6] (fun s wr=>∃ (i:Nat) (pre:List B256),i<=4/\s=.int .i64 i/\Hid (pre.map (·.1)=mems m (64*i)/\J pre wr/\Tab wr)) (fun s _=>4 - (intOf s).toNat)
 case atStart=>
  exact⟨0,[],by omega,rfl,zd ⟨rfl,HJ.out,HT.out⟩⟩
 case round=>
  obtain⟨i,pre,hi,rfl,HH⟩:=hrel
  by_cases hlt:i<4
  ·have hix:=HI.out i hlt
   have hdi:decide ((i:Int)<4)=true:=by simp;omega
   gi_wp2
   clear hix
   gi_loopw [4] (fun s wr=>∃ (y t:Nat) (pre:List B256),s=.int .u64 y/\y<18446744073709551616/\Hid (64*i<=t/\t<=64*i+64/\y=wd (sFrom m t) i/\pre.map (·.1)=mems m t/\J pre wr/\Tab wr)) (fun s _=>(intOf s).toNat)
   case atStart=>
    refine⟨wd m i,64*i,pre,rfl,xzgj _ _,zd ⟨Nat.le_refl _,by omega,xzaq fun j _=>?_,HH.out.1,HH.out.2.1,HH.out.2.2⟩⟩
    simp [sFrom]
   case round=>
    obtain⟨y,t,pre,rfl,hy,HH⟩:=hrel
    by_cases hz:y=0
    ·have b1:((y:Int)==0)=true:=by simp;omega
     have b2:((y:Int) != 0)=false:=by simp;omega
     gi_wp2
     subst hz;obtain⟨h1,h2,h3,h4,h5,h6⟩:=HH.out;exact⟨⟨i+1,pre,by omega,by go_num,zd ⟨by rw [h4,show 64*(i+1)=64*i+64 by omega];exact(xzkz h2 (fun c hc1 hc2=>no_bit h1 h3.symm c hc1 hc2)).symm,h5,h6⟩⟩,by simp [intOf];omega⟩
    ·obtain⟨b,h1,h2,h3,h4,h5,h6⟩:=xzlb HH.out.1 HH.out.2.2.1 hz
     have b1:((y:Int)==0)=false:=by simp;omega
     have b2:((y:Int) != 0)=true:=by simp;omega
     obtain⟨g1,g2,g3,g4,g5,g6⟩:=HH.out
     have hb:b<256:=by omega
     have htz:=tz_any y hy hz wr g6;rw [h3]at htz
     have hk:b - 64*i<64:=by omega
     have hsum:(i:Int)*64+((b - 64*i:Nat):Int)=(b:Int):=by omega
     have hlen:pre.length<256:=by
      have e:pre.length=(mems m t).length:=by rw [<-g4,List.length_map]
      have:=List.length_filter_le m (List.range t);unfold mems at e;rw [List.length_range]at this;omega
     have hnext:(pre++[(⟨b,hb⟩:B256)]).map (·.1)=mems m (b+1):=by
      rw [List.map_append,g4,xziq h1 h5 h4];rfl
     obtain⟨fn,tmps,assign,body,hy2,hR⟩:=HY.out pre ⟨b,hb⟩ wr g5 hlen;have hpre:mems m (b+1)<+:mems m 256:=xzfm (by omega);have hdec:y&&& (y - 1)<y:=Nat.lt_of_le_of_lt Nat.and_le_right (by omega)
     have hand:bits .and .u64 (y:Int) ((y:Int) - 1)=((y&&& (y - 1):Nat):Int):=by
      have:=u64_and_nat y (y - 1) hy (by omega);rw [<-this];congr 1;omega
     have HTZ:=zd htz;have HR:=zd hR;have HN:=zd hnext;have HP:=zd hpre;have HD:=zd hdec;have H6:=zd h6;have G6:=zd g6;have HA:=zd hand;clear htz hR hnext hpre hdec h6 g6 g4 g5 g3 HH h3 h4 h5 hlen hand;generalize hkk:b - 64*i=k at*;clear hkk
     dsimp only at hy2
     gi_wp2_with (first|(refine⟨trivial,?_⟩;gi_at_call 96;refine(callsIn_wide.2 HTZ.out).mono ?_;rintro e w' ⟨rfl,rfl⟩))
     refine HR.out.mono ?_;have hy1:0<y:=Nat.pos_of_ne_zero hz;rintro e W3 (⟨rfl,hJ3,hk3⟩|⟨rfl,hJx3⟩)
     ·have HK3:=zd hk3
      clear hk3 hsum hy2;have ha:=HA.out
      gi_wp2
      exact⟨⟨y&&& (y - 1),b+1,_,rfl,Nat.lt_trans HD.out hy,zd ⟨by omega,by omega,H6.out,HN.out,hJ3,G6.out.below HK3.out hn0⟩⟩,by simpa [intOf]using HD.out⟩
     ·gi_wp2
      refine bodyPost_ret (results_none rfl _ _ _) rfl ?_;exact⟨⟨_,rfl⟩,.inr ⟨_,by rw [HN.out];exact HP.out,hJx3⟩⟩
  ·have hi4:i=4:=by omega
   subst hi4
   gi_wp2
   go_end0
   exact⟨⟨_,rfl⟩,.inl ⟨pre,HH.out.1,HH.out.2.1⟩⟩
end Go.Proofs.YtgjfhbpmahgfcaaDoor
namespace Go.Proofs.YtgjfhbpmahgfcaaDoor
open Go.ChangeShapes Go.WideShapes Go.ChangeAt Go.RowKit
theorem ownKnobNone:ownKnob Tryd.prog.godebug=none:=by kernel_rfl
theorem laidOutYes:laidOutB Tryd.prog=true:=by kernel_rfl
section
variable {H : Type} {enc : TypeId × Value → H} {P : Program}
theorem xzeu (hl:laidOutB P=true){W W':World}(hb:Below W.heap.size W W'):∀ (ts:List TypeId) (vs:List Value) (ds:List (DataW H)) (ps:List MemPlace),
 (∀ t∈ts,P.readableRec t=true/\t<P.types.size)->(∀ x∈ps,x.block<W.heap.size)->DataW.TrodAll enc P W 0 (fun _=>true) true ts vs ds ps->
 DataW.TrodAll enc P W' 0 (fun b=>decide (b<W.heap.size)) true ts vs ds ps
 |[],vs,ds,ps,_,_,h=>by
  obtain⟨rfl,rfl,rfl⟩:=trodAll_nil h;exact trodAll_mk0
 |t::ts,vs,ds,ps,hr,hlt,h=>by
  obtain⟨v,vs',d,ds',p,q,rfl,rfl,rfl,h1,h2⟩:=trodAll_cons h;have hrt:=hr t (by simp)
  exact trodAll_cons_mk (WideElems.Trod_stays hl hrt.1 hrt.2 h1 (fun x hx=>hb.same (hlt x (by simp [hx]))) (fun x hx=>by simpa using hlt x (by simp [hx])))
   (xzeu hl hb ts vs' ds' q (fun u hu=>hr u (by simp [hu])) (fun x hx=>hlt x (by simp [hx])) h2)
theorem xzld {f:Func}{s:ChangeSpec}{apart fresh handsOn:Bool}{W W':World}{args:Array Value}{ds gs:List (DataW H)}{before:List MemPlace}{tb:TypeId}
 (hl:laidOutB P=true)(hr:∀ t∈f.params.toList,P.readableRec t=true/\t<P.types.size)(hres:f.resultTypes=#[tb])(htb:P.underlying tb=some .bool)(hvars:s.vars=[])
 (hW:DataW.Whole enc P f.params.toList s.vars apart W args.toList ds gs before)(hs:(s.fn H (ds++gs))={results:=[.lit (.bool true)],args:=ds})(hb:Below W.heap.size W W'):
 s.post enc P f apart fresh handsOn false W args (.bool true) W':=by
 have hlt:=hW.lt;obtain⟨p,q,hA,hV,hps,hfz,hnd⟩:=hW;have hV0:=hV;rw [hvars]at hV0;obtain⟨_,hq⟩:=trodVars_none hV0;refine⟨ds,gs,before,[],p,[],⟨p,q,hA,hV,hps,hfz,hnd⟩,?_,?_,?_,hb.frame _,fun h=>by cases h⟩
 ·rw [hs,hres]
  exact trodAll_mk1 (shut_bool htb true)
 ·rw [hs]
  exact xzeu hl hb _ _ _ _ hr (fun x hx=>hlt x (by rw [hps];simp [hx])) hA
 ·rw [hs,hvars];rfl
end
theorem xzgu {P:Program}{W:World}{name:String}{k:IntKind}{zs:List Int}{rest:List (String×DataW Unit)}{q0:List MemPlace}{g:Nat}{t e:TypeId}{n:Nat}
 (hg:P.globalNamed name=some g)(hty:(P.globals[g]?).map (·.type)=some t)(ht:P.underlying t=some (.array n e))(he:P.underlying e=some (.int k))(hce:P.cellsOf e=1)(hct:P.cellsOf t=n)
 (h:DataW.LaidVars P W ((name,Lib.tabData k zs)::rest) q0):Lib.TabIs P W name k zs/\∃ q,DataW.LaidVars P W rest q:=by
 obtain⟨g',t',cs,fuel,p,q,hg',ht',hvar,hd,hr,_⟩:=h;obtain rfl:=Option.some.inj (hg.symm.trans hg');obtain rfl:=Option.some.inj (hty.symm.trans ht');refine⟨?_,q,hr⟩;unfold Lib.TabIs;rw [hvar,<-Lib.cells_of_tab ht he hce hct hd]
theorem xzle {W:World}(h:laidMetH Tryd.prog [("math/bits.deBruijn32tab",Rows.laid_math_bits_deBruijn32tab),("math/bits.deBruijn64tab",Rows.laid_math_bits_deBruijn64tab),("internal/strconv.uint64pow10",Rows.laid_internal_strconv_uint64pow10)] W):Tab W:=by
 obtain⟨q0,h0,_,_⟩:laidMet Tryd.prog [("math/bits.deBruijn32tab",Rows.laid_math_bits_deBruijn32tab),("math/bits.deBruijn64tab",Rows.laid_math_bits_deBruijn64tab),("internal/strconv.uint64pow10",Rows.laid_internal_strconv_uint64pow10)] W:=h;obtain⟨_,q1,h1⟩:=xzgu (zs:=Lib.deBruijn32tab.map fun(n:Nat)=>(n:Int)) (k:=.u8) (g:=1) (t:=153) (by kernel_rfl) (by kernel_rfl) Tryd.underlying153 Tryd.underlying5 (by kernel_rfl) (by kernel_rfl) h0;obtain⟨ht,q2,h2⟩:=xzgu (zs:=Lib.deBruijn64tab.map fun(n:Nat)=>(n:Int)) (k:=.u8) (g:=2) (t:=154) (by kernel_rfl) (by kernel_rfl) Tryd.underlying154 Tryd.underlying5 (by kernel_rfl) (by kernel_rfl) h1;intro j hj;have hc:=ht.cell (g:=2) (by kernel_rfl) j (by simpa [Lib.deBruijn64tab]using hj);rw [hc];have hlen:Lib.deBruijn64tab.length=64:=rfl
 simp [List.getD,hlen,hj]
section
variable {H : Type} {enc : TypeId × Value → H} {W : World} {r : Reach} {base b0 : Nat} {spare : Nat → Bool} {held : Bool}
set_option maxRecDepth 100000 in
theorem xzfn {v:Value}{d:DataW H}{ps:List MemPlace}(hval:Value.okWide Tryd.prog W r b0 9 v)(hd:DataW.Trod enc Tryd.prog W base spare held 9 v d ps):∃ s:ByteArray,s.size<=9223372036854775807/\v=.string s:=by
 obtain⟨s,rfl,_,_,hs⟩:=Go.ChangeMaps.open_string Tryd.underlying9 hval hd;exact⟨s,by unfold maxLen at hs;omega,rfl⟩
end
def putTab (h:Array Obj)(g:Nat)(cs:Array Value):Array Obj:=
 h.modify g fun
  | .cells _ t frozen=>.cells cs t frozen
  |o=>o
noncomputable def laidWorld (os:Os):World:=
 {World.holding Tryd.prog os ⟨#[],#[],[]⟩with
  heap:=putTab (putTab (putTab (World.holding Tryd.prog os ⟨#[],#[],[]⟩).heap 2 (Lib.deBruijn64tab.map fun(n:Nat)=>Value.int .u8 (n:Int)).toArray)
   1 (Lib.deBruijn32tab.map fun(n:Nat)=>Value.int .u8 (n:Int)).toArray) 0 (Lib.pow10Tab.map fun z=>Value.int .u64 z).toArray}
end Go.Proofs.YtgjfhbpmahgfcaaDoor
namespace Go.Proofs.YtgjfhbpmahgfcaaDoor
open Go.Shelf Go.RowKit
def xzas:Go.Shelf.Ren:=⟨fun|156=>80|165=>94|166=>11|167=>10|170=>18|169=>13|240=>19|241=>99|276=>35|277=>101|n=>n,fun|31=>96|9=>9|3=>3|4=>4|0=>0|20=>20|72=>51|76=>55|70=>48|37=>49|75=>53|127=>70|164=>87|5=>5|80=>58|n=>n,fun|n=>n⟩
theorem laysB:Go.Proofs.Lays.n156 Tryd.prog xzas:={
 mixed:=by kernel_rfl
 f156:=Tryd.func80.trans (congrArg some (by kernel_rfl))
 f165:=Tryd.func94.trans (congrArg some (by kernel_rfl))
 f166:=Tryd.func11.trans (congrArg some (by kernel_rfl))
 f169:=Tryd.func13.trans (congrArg some (by kernel_rfl))
 f240:=Tryd.func19.trans (congrArg some (by kernel_rfl))
 f241:=Tryd.func99.trans (congrArg some (by kernel_rfl))
 f276:=Tryd.func35.trans (congrArg some (by kernel_rfl))
 f277:=Tryd.func101.trans (congrArg some (by kernel_rfl))
 t0:=Tryd.underlying0
 a0:=Tryd.isAgg0
 z0:=Tryd.sizeOf0
 v0:=Tryd.zeroValue0
 t3:=Tryd.underlying3
 a3:=Tryd.isAgg3
 z3:=Tryd.sizeOf3
 v3:=Tryd.zeroValue3
 t4:=Tryd.underlying4
 a4:=Tryd.isAgg4
 z4:=Tryd.sizeOf4
 v4:=Tryd.zeroValue4
 t9:=Tryd.underlying9
 a9:=Tryd.isAgg9
 z9:=Tryd.sizeOf9
 v9:=Tryd.zeroValue9
 t20:=Tryd.underlying20
 a20:=Tryd.isAgg20
 z20:=Tryd.sizeOf20
 v20:=Tryd.zeroValue20
 t31:=Tryd.underlying96
 a31:=Tryd.isAgg96
 z31:=Tryd.sizeOf96
 v31:=Tryd.zeroValue96
 t37:=Tryd.underlying49
 a37:=Tryd.isAgg49
 z37:=Tryd.sizeOf49
 v37:=Tryd.zeroValue49
 t70:=Tryd.underlying48
 a70:=Tryd.isAgg48
 z70:=Tryd.sizeOf48
 v70:=Tryd.zeroValue48
 t72:=Tryd.underlying51
 a72:=Tryd.isAgg51
 z72:=Tryd.sizeOf51
 v72:=Tryd.zeroValue51
 t75:=Tryd.underlying53
 a75:=Tryd.isAgg53
 z75:=Tryd.sizeOf53
 v75:=Tryd.zeroValue53
 t76:=Tryd.underlying55
 a76:=Tryd.isAgg55
 z76:=Tryd.sizeOf55
 v76:=Tryd.zeroValue55
 t127:=Tryd.underlying70
 a127:=Tryd.isAgg70
 z127:=Tryd.sizeOf70
 v127:=Tryd.zeroValue70
 t164:=Tryd.underlying87
 a164:=Tryd.isAgg87
 z164:=Tryd.sizeOf87
 v164:=Tryd.zeroValue87}
theorem ExtraB:Builder.Extra Tryd.prog xzas:={
 sizeBuilder:=by kernel_rfl
 liesBuilder:=by kernel_rfl
 t5:=Tryd.underlying5
 a5:=Tryd.isAgg5
 z5:=Tryd.sizeOf5
 v5:=Tryd.zeroValue5
 infoByte:=by kernel_rfl
 cellsByte:=by kernel_rfl
 sizeByte:=by kernel_rfl
 neB5:=by decide}
open Go.RowKit in
theorem laysB240:Go.Proofs.Lays.n240 Tryd.prog xzas:={laysB with}
theorem laysB166:Go.Proofs.Lays.n166 Tryd.prog xzas:={laysB with}
theorem laysB169:Go.Proofs.Lays.n169 Tryd.prog xzas:={laysB with}
theorem laysB167:Go.Proofs.Lays.n167 Tryd.prog xzas:={laysB with
 f167:=Tryd.func10.trans (congrArg some (by kernel_rfl))
 t5:=Tryd.underlying5
 a5:=Tryd.isAgg5
 z5:=Tryd.sizeOf5
 v5:=Tryd.zeroValue5}
theorem laysB170:Go.Proofs.Lays.n170 Tryd.prog xzas:={laysB with
 f170:=Tryd.func18.trans (congrArg some (by kernel_rfl))}
theorem bu_len (B b:Nat)(bs:List Value)(w:World)(h:Lib.IsBuilder 51 5 B b bs w):
 Calls Tryd.prog 18 #[.pointer (some ⟨b,0,none⟩)] w fun e w'=>e=.returned (.int .i64 bs.length)/\w'=w:=Go.Proofs.Any.Builder_Len laysB170 B b bs w h
theorem bu_byte (B b:Nat)(bs:List Value)(c:Int)(w:World)(h:Lib.IsBuilder 51 5 B b bs w)(hlen:bs.length+1<=140737488355328)(hBw:B<=w.heap.size):
 Calls Tryd.prog 10 #[.pointer (some ⟨b,0,none⟩),.int .u8 c] w fun e w'=>e=.returned .nilIface/\(Lib.BuilderAt 51 5 B b (.pointer (some ⟨b,0,none⟩)) (bs++[.int .u8 c]) w'/\Below B w w'):=Go.Proofs.Any.Builder_WriteByte laysB167 ExtraB B b bs c w h hlen hBw
theorem xzlf (B b:Nat)(bs:List Value)(s:ByteArray)(w:World)(h:Lib.IsBuilder 51 5 B b bs w)(hlen:bs.length+s.size<=140737488355328)(hBw:B<=w.heap.size):
 Calls Tryd.prog 11 #[.pointer (some ⟨b,0,none⟩),.string s] w fun e w'=>e=.returned (.tuple #[.int .i64 s.size,.nilIface])/\(Lib.BuilderAt 51 5 B b (.pointer (some ⟨b,0,none⟩)) (bs++Lib.strCells s) w'/\Below B w w'):=Go.Proofs.Any.Builder_WriteString laysB166 ExtraB B b bs s w h hlen hBw
theorem xzir (B b:Nat)(l:List UInt8)(w:World)(h:Lib.IsBuilder 51 5 B b (Lib.byteCells l) w)(hBw:B<=w.heap.size):
 Calls Tryd.prog 13 #[.pointer (some ⟨b,0,none⟩)] w fun e w'=>e=.returned (.string ⟨l.toArray⟩)/\Below B w w':=Go.Proofs.Any.Builder_String_any laysB169 ExtraB B b l w h hBw
end Go.Proofs.YtgjfhbpmahgfcaaDoor
namespace Go.Proofs.YtgjfhbpmahgfcaaDoor
open Go.RowKit
inductive Tree where
 |node (kind:Int) (m:Nat->Bool) (sub:List Tree) (lo hi:Int)
theorem Tree.ind {C:Tree->Prop}(h:∀ k m l lo hi,(∀ t∈l,C t)->C (.node k m l lo hi)):∀ T,C T
 | .node k m l lo hi=>h k m l lo hi fun t _=>Tree.ind h t
termination_by T=>SizeOf.sizeOf T
namespace Tree
def kind:Tree->Int| .node k _ _ _ _=>k
def set:Tree->Nat->Bool| .node _ m _ _ _=>m
def sub:Tree->List Tree| .node _ _ l _ _=>l
def lo:Tree->Int| .node _ _ _ a _=>a
def hi:Tree->Int| .node _ _ _ _ b=>b
end Tree
def reL (k:Int)(m:Nat->Bool)(A:Option Addr)(n c:Nat)(lo hi:Int):List Value:=
 [.int .i64 k,.int .u64 (wd m 0:Nat),.int .u64 (wd m 1:Nat),.int .u64 (wd m 2:Nat),.int .u64 (wd m 3:Nat),.slice A n c,.int .i64 lo,.int .i64 hi]
def reV (k:Int)(m:Nat->Bool)(A:Option Addr)(n c:Nat)(lo hi:Int):Value:=.agg (reL k m A n c lo hi).toArray
mutual
def Tree.At (W:World):Tree->Value->Prop
 | .node k m l lo hi,v=>∃ A c,v=reV k m A l.length c lo hi/\(l.length<=c/\c<=9223372036854775807)/\(l≠[]->∃ b o,A=some ⟨b,o,none⟩/\AllAt W l b o)
def AllAt (W:World):List Tree->Nat->Nat->Prop
 |[],_,_=>True
 |t::r,b,o=>(∃ cs:List Value,Tree.At W t (.agg cs.toArray)/\cs.length=8/\W.rangeAt b o cs)/\AllAt W r b (o+8)
end
theorem AllAt.get {W:World}:∀ (l:List Tree) (b o:Nat),AllAt W l b o->∀ (i:Nat) (h:i<l.length),∃ cs:List Value,Tree.At W l[i] (.agg cs.toArray)/\cs.length=8/\W.rangeAt b (o+i*8) cs
 |[],_,_,_,i,h=>by simp at h
 |t::r,b,o,ha,i,h=>by
  unfold AllAt at ha
  cases i with
  |zero=>simpa using ha.1
  |succ i=>
   have:=AllAt.get r b (o+8) ha.2 i (by simpa using h);rw [show o+(i+1)*8=o+8+i*8 by omega]
   simpa using this
theorem AllAt.mk {W:World}:∀ (l:List Tree) (b o:Nat),(∀ (i:Nat) (h:i<l.length),∃ cs:List Value,Tree.At W l[i] (.agg cs.toArray)/\cs.length=8/\W.rangeAt b (o+i*8) cs)->AllAt W l b o
 |[],_,_,_=>by unfold AllAt;trivial
 |t::r,b,o,ha=>by
  unfold AllAt;refine⟨by have:=ha 0 (by simp);rw [Nat.zero_mul,Nat.add_zero]at this;exact this,AllAt.mk r b (o+8) fun i h=>?_⟩;have:=ha (i+1) (by simpa using h);rw [show o+(i+1)*8=o+8+i*8 by omega]at this
  simpa using this
theorem xzat {W W':World}{b o:Nat}{cs:List Value}(h:W.rangeAt b o cs)(hn:cs≠[])(hb:Below W.heap.size W W'):W'.rangeAt b o cs:=by
 obtain⟨v,r,rfl⟩:=List.exists_cons_of_ne_nil hn;have hlt:b<W.heap.size:=World.block_lt_of_cell? W ⟨b,o+0,none⟩ (h 0 v rfl);intro j x hx;exact(hb.cell (p:=⟨b,o+j,none⟩) hlt).trans (h j x hx)
theorem Tree.At.step {W W':World}(hb:Below W.heap.size W W'):∀ (T:Tree) {v:Value},Tree.At W T v->Tree.At W' T v:=by
 intro T
 induction T using Tree.ind with
 |h k m l lo hi ih=>
  intro v h;unfold Tree.At at h ⊢;obtain⟨A,c,rfl,hc,hs⟩:=h;refine⟨A,c,rfl,hc,fun hne=>?_⟩;obtain⟨b,o,rfl,ha⟩:=hs hne;refine⟨b,o,rfl,AllAt.mk l b o fun i hi=>?_⟩;obtain⟨cs,h1,h2,h3⟩:=AllAt.get l b o ha i hi;exact⟨cs,ih _ (List.getElem_mem hi) h1,h2,xzat h3 (by intro e;subst e;simp at h2) hb⟩
theorem BlkIs.eight {w:World}{g:Nat}{t:TypeId}{a b c d e f x y:Value}(h:BlkIs w g t #[a,b,c,d,e,f,x,y]):w.cell? ⟨g,0,none⟩=some a/\w.cell? ⟨g,1,none⟩=some b/\w.cell? ⟨g,2,none⟩=some c/\w.cell? ⟨g,3,none⟩=some d/\
 w.cell? ⟨g,4,none⟩=some e/\w.cell? ⟨g,5,none⟩=some f/\w.cell? ⟨g,6,none⟩=some x/\w.cell? ⟨g,7,none⟩=some y:=
 ⟨h.cell 0,h.cell 1,h.cell 2,h.cell 3,h.cell 4,h.cell 5,h.cell 6,h.cell 7⟩
theorem Tree.At.eight {W:World}{T:Tree}{cs:List Value}(h:Tree.At W T (.agg cs.toArray)):∃ A n c,cs=reL T.kind T.set A n c T.lo T.hi:=by
 cases T with
 |node k m l lo hi=>
  unfold Tree.At at h;obtain⟨A,c,he,_⟩:=h;unfold reV at he
  injection he with he
  exact⟨A,l.length,c,by have:=congrArg Array.toList he;simp only at this;exact this⟩
theorem xzev {W W':World}{b o:Nat}{k lo hi:Int}{m:Nat->Bool}{A:Option Addr}{n c:Nat}(h:W.rangeAt b o (reL k m A n c lo hi))(hb:Below W.heap.size W W'):
 W'.cell? ⟨b,o,none⟩=some (.int .i64 k)/\W'.cell? ⟨b,o+1,none⟩=some (.int .u64 (wd m 0:Nat))/\W'.cell? ⟨b,o+2,none⟩=some (.int .u64 (wd m 1:Nat))/\W'.cell? ⟨b,o+3,none⟩=some (.int .u64 (wd m 2:Nat))/\
 W'.cell? ⟨b,o+4,none⟩=some (.int .u64 (wd m 3:Nat))/\W'.cell? ⟨b,o+5,none⟩=some (.slice A n c)/\W'.cell? ⟨b,o+6,none⟩=some (.int .i64 lo)/\W'.cell? ⟨b,o+7,none⟩=some (.int .i64 hi):=by
 have h2:=xzat h (by simp [reL]) hb;exact⟨h2 0 _ rfl,h2 1 _ rfl,h2 2 _ rfl,h2 3 _ rfl,h2 4 _ rfl,h2 5 _ rfl,h2 6 _ rfl,h2 7 _ rfl⟩
theorem Tree.At.open {W:World}{k:Int}{m:Nat->Bool}{l:List Tree}{lo hi:Int}{v:Value}(h:Tree.At W (.node k m l lo hi) v):
 ∃ A c,v=reV k m A l.length c lo hi/\(l.length<=c/\c<=9223372036854775807)/\(l≠[]->∃ b o,A=some ⟨b,o,none⟩/\b<W.heap.size/\∀ (i:Nat) (h:i<l.length),∃ cs:List Value,Tree.At W l[i] (.agg cs.toArray)/\cs.length=8/\W.rangeAt b (o+i*8) cs):=by
 unfold Tree.At at h;obtain⟨A,c,rfl,hc,hs⟩:=h;refine⟨A,c,rfl,hc,fun hne=>?_⟩;obtain⟨b,o,rfl,ha⟩:=hs hne;have hg:=AllAt.get l b o ha;refine⟨b,o,rfl,?_,hg⟩;have h0:0<l.length:=List.length_pos_iff.2 hne;obtain⟨cs,_,h2,h3⟩:=hg 0 h0;obtain⟨x,r,rfl⟩:∃ x r,cs=x::r:=List.exists_cons_of_ne_nil (by intro e;subst e;simp at h2);exact World.block_lt_of_cell? W ⟨b,o+0*8+0,none⟩ (h3 0 x rfl)
end Go.Proofs.YtgjfhbpmahgfcaaDoor
