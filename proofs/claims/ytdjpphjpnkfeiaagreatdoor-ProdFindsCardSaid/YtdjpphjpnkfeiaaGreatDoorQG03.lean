/-
 WHAT IS SAID OF NO PROGRAM: the bytes of a set, rising: how a word loses its lowest bit. No condition.
-/
import Derived.Lib.TrailingZeros
import Derived.RangeFuncNested
import Derived.RangeFuncBound
import Derived.RangeFuncCalls
import Derived.RangeFuncLeaves
import Derived.Shelf.Abstract
import Derived.Shelf.RegionOpen
import Derived.WalkKit
import Derived.OwnWalkIn
import Derived.TacticsInMore
import Derived.LoopNIn
import Derived.LoopIn
import Derived.RangeFuncBox
import Derived.Test.YtdjpphjpnkfeiaaGreatDoorCards
import Derived.Test.YtdjpphjpnkfeiaaGreatDoorTie
import Derived.ChangeSlices
import Derived.ProofKit
import Derived.OpenShut
import Derived.Deep.DeepHandedRow
import Derived.Lib.LaidTab
import Derived.Test.YtdjpphjpnkfeiaaGreatDoorRows
import Derived.Lib.Hide
import Derived.Deep.SlicePairs
import Derived.LoopTactic
import Derived.ChangeArms
import Derived.ChangeSame
import Derived.DataReads
import Derived.Deep.Slices
import Derived.Test.YtdjpphjpnkfeiaaGreatDoorQG01
import Derived.Test.YtdjpphjpnkfeiaaGreatDoorQG02
namespace Go.Proofs.YtdjpphjpnkfeiaaGreatDoor
open Go.RowKit
def mems (m:Nat->Bool)(t:Nat):List Nat:=(List.range t).filter m
theorem xzkb {m:Nat->Bool}{t:Nat}:∀ (d:Nat),(∀ b,t<=b->b<t+d->m b=false)->mems m (t+d)=mems m t
 |0,_=>rfl
 |d+1,h=>by
  unfold mems;rw [show t+(d+1)=(t+d)+1 by omega,List.range_succ,List.filter_append];have:=xzkb d (fun b h1 h2=>h b h1 (by omega));unfold mems at this;rw [this,List.filter_cons,h (t+d) (by omega) (by omega)]
  simp
theorem xzov {m:Nat->Bool}{t b:Nat}(htb:t<=b)(h:∀ c,t<=c->c<b->m c=false)(hb:m b=true):mems m (b+1)=mems m t++[b]:=by
 have h1:=xzkb (m:=m) (t:=t) (b - t) (fun c h1 h2=>h c h1 (by omega));rw [show t+(b - t)=b by omega]at h1;unfold mems at*;rw [List.range_succ,List.filter_append,h1]
 simp [hb]
theorem xztb {m:Nat->Bool}{t t':Nat}(htb:t<=t')(h:∀ c,t<=c->c<t'->m c=false):mems m t'=mems m t:=by
 have h1:=xzkb (m:=m) (t:=t) (t' - t) (fun c h1 h2=>h c h1 (by omega))
 rwa [show t+(t' - t)=t' by omega]at h1
theorem xziy {m:Nat->Bool}{t t':Nat}(h:t<=t'):mems m t<+:mems m t':=by
 unfold mems;obtain⟨d,rfl⟩:∃ d,t'=t+d:=⟨t' - t,by omega⟩;rw [List.range_add,List.filter_append];exact List.prefix_append _ _
def sFrom (m:Nat->Bool)(t:Nat):Nat->Bool:=fun b=>decide (t<=b)&&m b
theorem yzdg {y:Nat}(h0:y≠0)(hy:y<18446744073709551616):∃ k q,Lib.ctz 64 y=k/\k<64/\y=2^k+2^(k+1)*q:=by
 obtain⟨q,h1,h2⟩:=Lib.ctzFrom_spec 64 y (by omega) (by simpa using hy);refine⟨Lib.ctzFrom 64 y,q,by unfold Lib.ctz;rw [if_neg h0],h2,?_⟩;generalize Lib.ctzFrom 64 y=k at*;rw [h1,Nat.mul_add,Nat.pow_succ,Nat.mul_one,Nat.mul_assoc];omega
theorem lowest (k q j:Nat):(2^k+2^(k+1)*q).testBit j=if j<k+1 then decide (j=k)else q.testBit (j - (k+1)):=by
 rw [Nat.add_comm,Nat.testBit_two_pow_mul_add _ (Nat.pow_lt_pow_right (by decide) (by omega))]
 split
 ·rw [Nat.testBit_two_pow];exact decide_eq_decide.2 ⟨fun h=>h.symm,fun h=>h.symm⟩
 ·rfl
theorem lost (k q:Nat):(2^k+2^(k+1)*q)&&& (2^k+2^(k+1)*q - 1)=2^(k+1)*q:=by
 have hp:0<2^k:=Nat.two_pow_pos k
 have e:2^k+2^(k+1)*q - 1=2^(k+1)*q+(2^k - 1):=by omega
 have hlt:2^k - 1<2^(k+1):=by rw [Nat.pow_succ];omega
 refine Nat.eq_of_testBit_eq fun j=>?_
 rw [Nat.testBit_and,lowest,e,Nat.testBit_two_pow_mul_add _ hlt,Nat.testBit_two_pow_mul]
 split
 ·rename_i h
  rw [Nat.testBit_two_pow_sub_one]
  by_cases e:j=k
  ·subst e;simp;intro h;omega
  ·simp [e];omega
 ·rename_i h
  have:k+1<=j:=by omega
  simp [this]
theorem yzdh {m:Nat->Bool}{i t y:Nat}(h1:64*i<=t)(hy:y=wd (sFrom m t) i)(h0:y≠0):
 ∃ b,t<=b/\b<64*i+64/\Lib.ctz 64 y=b - 64*i/\m b=true/\(∀ c,t<=c->c<b->m c=false)/\y&&& (y - 1)=wd (sFrom m (b+1)) i:=by
 have hlt:y<18446744073709551616:=by rw [hy];exact xzis _ _
 obtain⟨k,q,hk,hk64,hyk⟩:=yzdg h0 hlt
 have hbit:∀ j,j<64->y.testBit j=(decide (t<=64*i+j)&&m (64*i+j)):=fun j hj=>by rw [hy,xzaw];simp [hj,sFrom]
 have hkb:=hbit k hk64;rw [hyk,lowest,if_pos (by omega)]at hkb
 simp at hkb
 refine⟨64*i+k,hkb.1,by omega,by rw [hk];omega,hkb.2,fun c hc1 hc2=>?_,?_⟩
 ·have:=hbit (c - 64*i) (by omega)
  rw [hyk,lowest,if_pos (by omega),show 64*i+(c - 64*i)=c by omega]at this
  have e: ¬ c - 64*i=k:=by omega
  simpa [e,hc1]using this.symm
 ·rw [hyk,lost]
  refine xzxw (by rw [hyk]at hlt;exact Nat.lt_of_le_of_lt (Nat.le_add_left _ _) hlt) fun j hj=>?_
  rw [Nat.testBit_two_pow_mul];have hb2:=hbit j hj;rw [hyk,lowest]at hb2;unfold sFrom
  by_cases hjk:k+1<=j
  ·rw [if_neg (by omega)]at hb2
   have e1:64*i+k+1<=64*i+j:=by omega
   have e2:t<=64*i+j:=by omega
   simp [hjk,hb2,e1,e2]
  ·have e1: ¬ 64*i+k+1<=64*i+j:=by omega
   simp [hjk,e1]
theorem no_bit {m:Nat->Bool}{i t:Nat}(h1:64*i<=t)(hy:wd (sFrom m t) i=0):∀ c,t<=c->c<64*i+64->m c=false:=fun c hc1 hc2=>by
 have h:=xzaw (sFrom m t) i (c - 64*i);rw [hy,Nat.zero_testBit,show 64*i+(c - 64*i)=c by omega]at h
 have e:c - 64*i<64:=by omega
 simpa [sFrom,e,hc1]using h.symm
end Go.Proofs.YtdjpphjpnkfeiaaGreatDoor
namespace Go.Proofs.YtdjpphjpnkfeiaaGreatDoor
open Go.RowKit
def Tab (w:World):Prop:=∀ j,j<64->w.cell? ⟨0,j,none⟩=some (.int .u8 (Lib.deBruijn64tab.getD j 0:Nat))
theorem Tab.below {B:Nat}{w w':World}(h:Tab w)(hb:Below B w w')(hB:0<B):Tab w':=fun j hj=>(hb.cell (p:=⟨0,j,none⟩) hB).trans (h j hj)
theorem Tab.pos {w:World}(h:Tab w):0<w.heap.size:=World.block_lt_of_cell? w _ (h 0 (by decide))
theorem Tab.step {w w':World}(h:Tab w)(hb:Below w.heap.size w w'):Tab w':=h.below hb h.pos
set_option maxHeartbeats 1000000 in
theorem tz_core (x k idx:Nat)(w:World)(hx0:((x:Int)==0)=false)
 (key:IntKind.u64.wrap (bits BinOp.and IntKind.u64 (x:Int) (IntKind.u64.wrap (-(x:Int)))*285870213051353865) / 288230376151711744=(idx:Int))
 (hi:idx<64)(hk:k<64)(hcell:w.cell? ⟨0,idx,none⟩=some (.int .u8 k)):
 Calls Tryz.prog 76 #[.int .u64 x] w fun e w'=>e=.returned (.int .i64 k)/\w'=w:=by
 go_enter Tryz.func76,Tryz.ntmps76
 go_wp2_with(simp only [key])
 go_ret;exact⟨rfl,rfl⟩
theorem tz_key (x a:Nat)(hx:x<18446744073709551616)(hx0:x≠0)(hlow:x&&& (18446744073709551616 - x)=a):
 IntKind.u64.wrap (bits BinOp.and IntKind.u64 (x:Int) (IntKind.u64.wrap (-(x:Int)))*285870213051353865) / 288230376151711744=((a*285870213051353865%18446744073709551616 / 288230376151711744:Nat):Int):=by
 have e1:IntKind.u64.wrap (-(x:Int))=((18446744073709551616 - x:Nat):Int):=by rw [IntKind.wrap_u64];omega
 rw [e1,u64_and_nat x _ hx (by omega),hlow,IntKind.wrap_u64];omega
theorem tz_any (x:Nat)(hx:x<18446744073709551616)(hx0:x≠0)(w:World)(hT:Tab w):
 Calls Tryz.prog 76 #[.int .u64 x] w fun e w'=>e=.returned (.int .i64 (Lib.ctz 64 x:Nat))/\w=w':=by
 obtain⟨hlow,hk⟩:=Lib.lowest_bit 64 x hx0 (by simpa using hx);obtain⟨hi,htab⟩:=Lib.deBruijn64_at _ hk;have hcell:=hT _ hi;rw [htab]at hcell
 exact(tz_core x _ _ w (by simp;omega) (tz_key x _ hx hx0 hlow) hi hk hcell).mono fun _ _ h=>⟨h.1,h.2.symm⟩
abbrev B256:={x:Nat // x<256}
theorem idx_any (m:Nat->Bool)(i:Nat)(hi:i<4)(w:World):(Instr.index 48 (setV m) (.int .i64 (i:Nat))).run Tryz.prog w=.ok (.int .u64 (wd m i:Nat)) w:=by
 have h:=xzor m w
 have hc:i=0\/i=1\/i=2\/i=3:=by omega
 rcases hc with rfl|rfl|rfl|rfl
 ·exact h.1
 ·exact h.2.1
 ·exact h.2.2.1
 ·exact h.2.2.2
attribute [local go_sem] Oper.semAt_some
set_option maxHeartbeats 1000000 in
theorem yzdi (n:Nat)(hn:1<=n)(l Bs n₀:Nat)(hn0:0<n₀)(m:Nat->Bool)(J Jx:List B256->World->Prop)
 (hY:∀ pre (x:B256) W,J pre W->pre.length<256->YieldAt Fence.wide (n - 1) Tryz.prog l #[.int .u8 x.1] W fun e W'=>
  (e=.returned (.bool true)/\J (pre++[x]) W'/\Below n₀ W W')\/(e=.returned (.bool false)/\Jx (pre++[x]) W'))
 (W:World)(hbox:BlkIs W Bs 48 #[.int .u64 (wd m 0:Nat),.int .u64 (wd m 1:Nat),.int .u64 (wd m 2:Nat),.int .u64 (wd m 3:Nat)])(hT:Tab W)(h0:J [] W):
 CallsIn Fence.wide n Tryz.prog 75 #[.func (.yield l) #[] #[],.pointer (some ⟨Bs,0,none⟩)] W fun e W'=>(∃ v,e=.returned v)/\
  ((∃ xs:List B256,xs.map (·.1)=mems m 256/\J xs W')\/(∃ pre:List B256,pre.map (·.1)<+:mems m 256/\Jx pre W')):=by
 obtain⟨c0,c1,c2,c3,_⟩:=hbox.four;have HY:=zd hY;have HT:=zd hT;have HJ:=zd h0;have HI:=zd (idx_any m);clear hbox hY hT h0;refine callsIn_of_wp Tryz.func75 rfl trivial ?_ rfl;simp only [Tryz.ntmps75,List.size_toArray,List.length_cons,List.length_nil,Nat.reduceAdd,Nat.reduceSub,Array.replicate_succ,Array.replicate_zero,List.push_toArray,List.append_toArray,List.nil_append,List.cons_append]
 gi_wp2
 clear c0 c1 c2 c3
 gi_loopw [6] (fun s wr=>∃ (i:Nat) (pre:List B256),i<=4/\s=.int .i64 i/\Hid (pre.map (·.1)=mems m (64*i)/\J pre wr/\Tab wr)) (fun s _=>4 - (intOf s).toNat)
 case atStart=>
  exact⟨0,[],by omega,rfl,zd ⟨rfl,HJ.out,HT.out⟩⟩
 case round=>
  obtain⟨i,pre,hi,rfl,HH⟩:=hrel
  by_cases hlt:i<4
  ·have hix:=HI.out i hlt
   have hdi:decide ((i:Int)<4)=true:=by simp;omega
   gi_wp2
   clear hix
   gi_loopw [4] (fun s wr=>∃ (y t:Nat) (pre:List B256),s=.int .u64 y/\y<18446744073709551616/\Hid (64*i<=t/\t<=64*i+64/\y=wd (sFrom m t) i/\pre.map (·.1)=mems m t/\J pre wr/\Tab wr)) (fun s _=>(intOf s).toNat)
   case atStart=>
    refine⟨wd m i,64*i,pre,rfl,xzis _ _,zd ⟨Nat.le_refl _,by omega,xzbh fun j _=>?_,HH.out.1,HH.out.2.1,HH.out.2.2⟩⟩
    simp [sFrom]
   case round=>
    obtain⟨y,t,pre,rfl,hy,HH⟩:=hrel
    by_cases hz:y=0
    ·have b1:((y:Int)==0)=true:=by simp;omega
     have b2:((y:Int) != 0)=false:=by simp;omega
     gi_wp2
     subst hz;obtain⟨h1,h2,h3,h4,h5,h6⟩:=HH.out;exact⟨⟨i+1,pre,by omega,by go_num,zd ⟨by rw [h4,show 64*(i+1)=64*i+64 by omega];exact(xztb h2 (fun c hc1 hc2=>no_bit h1 h3.symm c hc1 hc2)).symm,h5,h6⟩⟩,by simp [intOf];omega⟩
    ·obtain⟨b,h1,h2,h3,h4,h5,h6⟩:=yzdh HH.out.1 HH.out.2.2.1 hz
     have b1:((y:Int)==0)=false:=by simp;omega
     have b2:((y:Int) != 0)=true:=by simp;omega
     obtain⟨g1,g2,g3,g4,g5,g6⟩:=HH.out
     have hb:b<256:=by omega
     have htz:=tz_any y hy hz wr g6;rw [h3]at htz
     have hk:b - 64*i<64:=by omega
     have hsum:(i:Int)*64+((b - 64*i:Nat):Int)=(b:Int):=by omega
     have hlen:pre.length<256:=by
      have e:pre.length=(mems m t).length:=by rw [<-g4,List.length_map]
      have:=List.length_filter_le m (List.range t);unfold mems at e;rw [List.length_range]at this;omega
     have hnext:(pre++[(⟨b,hb⟩:B256)]).map (·.1)=mems m (b+1):=by
      rw [List.map_append,g4,xzov h1 h5 h4];rfl
     obtain⟨fn,tmps,assign,body,hy2,hR⟩:=HY.out pre ⟨b,hb⟩ wr g5 hlen;have hpre:mems m (b+1)<+:mems m 256:=xziy (by omega);have hdec:y&&& (y - 1)<y:=Nat.lt_of_le_of_lt Nat.and_le_right (by omega)
     have hand:bits .and .u64 (y:Int) ((y:Int) - 1)=((y&&& (y - 1):Nat):Int):=by
      have:=u64_and_nat y (y - 1) hy (by omega);rw [<-this];congr 1;omega
     have HTZ:=zd htz;have HR:=zd hR;have HN:=zd hnext;have HP:=zd hpre;have HD:=zd hdec;have H6:=zd h6;have G6:=zd g6;have HA:=zd hand;clear htz hR hnext hpre hdec h6 g6 g4 g5 g3 HH h3 h4 h5 hlen hand;generalize hkk:b - 64*i=k at*;clear hkk
     dsimp only at hy2
     gi_wp2_with (first|(refine⟨trivial,?_⟩;gi_at_call 76;refine(callsIn_wide.2 HTZ.out).mono ?_;rintro e w' ⟨rfl,rfl⟩))
     refine HR.out.mono ?_;have hy1:0<y:=Nat.pos_of_ne_zero hz;rintro e W3 (⟨rfl,hJ3,hk3⟩|⟨rfl,hJx3⟩)
     ·have HK3:=zd hk3
      clear hk3 hsum hy2;have ha:=HA.out
      gi_wp2
      exact⟨⟨y&&& (y - 1),b+1,_,rfl,Nat.lt_trans HD.out hy,zd ⟨by omega,by omega,H6.out,HN.out,hJ3,G6.out.below HK3.out hn0⟩⟩,by simpa [intOf]using HD.out⟩
     ·gi_wp2
      refine bodyPost_ret (results_none rfl _ _ _) rfl ?_;exact⟨⟨_,rfl⟩,.inr ⟨_,by rw [HN.out];exact HP.out,hJx3⟩⟩
  ·have hi4:i=4:=by omega
   subst hi4
   gi_wp2
   go_end0
   exact⟨⟨_,rfl⟩,.inl ⟨pre,HH.out.1,HH.out.2.1⟩⟩
end Go.Proofs.YtdjpphjpnkfeiaaGreatDoor
namespace Go.Proofs.YtdjpphjpnkfeiaaGreatDoor
open Go.ChangeShapes Go.WideShapes Go.ChangeAt Go.RowKit
theorem ownKnobNone:ownKnob Tryz.prog.godebug=none:=by kernel_rfl
theorem laidOutYes:laidOutB Tryz.prog=true:=by kernel_rfl
section
variable {H : Type} {enc : TypeId × Value → H} {P : Program}
theorem xzow (hl:laidOutB P=true){W W':World}(hb:Below W.heap.size W W'):∀ (ts:List TypeId) (vs:List Value) (ds:List (DataW H)) (ps:List MemPlace),
 (∀ t∈ts,P.readableRec t=true/\t<P.types.size)->(∀ x∈ps,x.block<W.heap.size)->DataW.TrodAll enc P W 0 (fun _=>true) true ts vs ds ps->
 DataW.TrodAll enc P W' 0 (fun b=>decide (b<W.heap.size)) true ts vs ds ps
 |[],vs,ds,ps,_,_,h=>by
  obtain⟨rfl,rfl,rfl⟩:=trodAll_nil h;exact trodAll_mk0
 |t::ts,vs,ds,ps,hr,hlt,h=>by
  obtain⟨v,vs',d,ds',p,q,rfl,rfl,rfl,h1,h2⟩:=trodAll_cons h;have hrt:=hr t (by simp)
  exact trodAll_cons_mk (WideElems.Trod_stays hl hrt.1 hrt.2 h1 (fun x hx=>hb.same (hlt x (by simp [hx]))) (fun x hx=>by simpa using hlt x (by simp [hx])))
   (xzow hl hb ts vs' ds' q (fun u hu=>hr u (by simp [hu])) (fun x hx=>hlt x (by simp [hx])) h2)
theorem yzdj {f:Func}{s:ChangeSpec}{apart fresh handsOn:Bool}{W W':World}{args:Array Value}{ds gs:List (DataW H)}{before:List MemPlace}{tb:TypeId}
 (hl:laidOutB P=true)(hr:∀ t∈f.params.toList,P.readableRec t=true/\t<P.types.size)(hres:f.resultTypes=#[tb])(htb:P.underlying tb=some .bool)(hvars:s.vars=[])
 (hW:DataW.Whole enc P f.params.toList s.vars apart W args.toList ds gs before)(hs:(s.fn H (ds++gs))={results:=[.lit (.bool true)],args:=ds})(hb:Below W.heap.size W W'):
 s.post enc P f apart fresh handsOn false W args (.bool true) W':=by
 have hlt:=hW.lt;obtain⟨p,q,hA,hV,hps,hfz,hnd⟩:=hW;have hV0:=hV;rw [hvars]at hV0;obtain⟨_,hq⟩:=trodVars_none hV0;refine⟨ds,gs,before,[],p,[],⟨p,q,hA,hV,hps,hfz,hnd⟩,?_,?_,?_,hb.frame _,fun h=>by cases h⟩
 ·rw [hs,hres]
  exact trodAll_mk1 (shut_bool htb true)
 ·rw [hs]
  exact xzow hl hb _ _ _ _ hr (fun x hx=>hlt x (by rw [hps];simp [hx])) hA
 ·rw [hs,hvars];rfl
end
theorem tab_of {W:World}(h:laidMetH Tryz.prog [("math/bits.deBruijn64tab",Rows.laid_math_bits_deBruijn64tab)] W):Tab W:=by
 have ht:Lib.TabIs Tryz.prog W "math/bits.deBruijn64tab" .u8 (Lib.deBruijn64tab.map fun(n:Nat)=>(n:Int)):=
  Lib.tabIs_of_head (rest:=[]) (g:=0) (t:=165) (by kernel_rfl) (by kernel_rfl) Tryz.underlying165 Tryz.underlying5 (by kernel_rfl) (by kernel_rfl) h
 intro j hj;have hc:=ht.cell (g:=0) (by kernel_rfl) j (by simpa [Lib.deBruijn64tab]using hj);rw [hc];have hlen:Lib.deBruijn64tab.length=64:=rfl
 simp [List.getD,hlen,hj]
noncomputable def laidWorld (os:Os):World:=
 {World.holding Tryz.prog os ⟨#[],#[],[]⟩with heap:=(World.holding Tryz.prog os ⟨#[],#[],[]⟩).heap.modify 0 fun
  | .cells _ t frozen=>.cells (Lib.deBruijn64tab.map fun(n:Nat)=>Value.int .u8 (n:Int)).toArray t frozen
  |o=>o}
end Go.Proofs.YtdjpphjpnkfeiaaGreatDoor
namespace Go.Proofs.YtdjpphjpnkfeiaaGreatDoor
open Go.RowKit
inductive Tree where
 |node (kind:Int) (m:Nat->Bool) (sub:List Tree) (lo hi:Int)
theorem Tree.ind {C:Tree->Prop}(h:∀ k m l lo hi,(∀ t∈l,C t)->C (.node k m l lo hi)):∀ T,C T
 | .node k m l lo hi=>h k m l lo hi fun t _=>Tree.ind h t
termination_by T=>SizeOf.sizeOf T
namespace Tree
def kind:Tree->Int| .node k _ _ _ _=>k
def set:Tree->Nat->Bool| .node _ m _ _ _=>m
def sub:Tree->List Tree| .node _ _ l _ _=>l
def lo:Tree->Int| .node _ _ _ a _=>a
def hi:Tree->Int| .node _ _ _ _ b=>b
end Tree
def reL (k:Int)(m:Nat->Bool)(A:Option Addr)(n c:Nat)(lo hi:Int):List Value:=
 [.int .i64 k,.int .u64 (wd m 0:Nat),.int .u64 (wd m 1:Nat),.int .u64 (wd m 2:Nat),.int .u64 (wd m 3:Nat),.slice A n c,.int .i64 lo,.int .i64 hi]
def reV (k:Int)(m:Nat->Bool)(A:Option Addr)(n c:Nat)(lo hi:Int):Value:=.agg (reL k m A n c lo hi).toArray
mutual
def Tree.At (W:World):Tree->Value->Prop
 | .node k m l lo hi,v=>∃ A c,v=reV k m A l.length c lo hi/\(l.length<=c/\c<=9223372036854775807)/\(l≠[]->∃ b o,A=some ⟨b,o,none⟩/\AllAt W l b o)
def AllAt (W:World):List Tree->Nat->Nat->Prop
 |[],_,_=>True
 |t::r,b,o=>(∃ cs:List Value,Tree.At W t (.agg cs.toArray)/\cs.length=8/\W.rangeAt b o cs)/\AllAt W r b (o+8)
end
theorem AllAt.get {W:World}:∀ (l:List Tree) (b o:Nat),AllAt W l b o->∀ (i:Nat) (h:i<l.length),∃ cs:List Value,Tree.At W l[i] (.agg cs.toArray)/\cs.length=8/\W.rangeAt b (o+i*8) cs
 |[],_,_,_,i,h=>by simp at h
 |t::r,b,o,ha,i,h=>by
  unfold AllAt at ha
  cases i with
  |zero=>simpa using ha.1
  |succ i=>
   have:=AllAt.get r b (o+8) ha.2 i (by simpa using h);rw [show o+(i+1)*8=o+8+i*8 by omega]
   simpa using this
theorem AllAt.mk {W:World}:∀ (l:List Tree) (b o:Nat),(∀ (i:Nat) (h:i<l.length),∃ cs:List Value,Tree.At W l[i] (.agg cs.toArray)/\cs.length=8/\W.rangeAt b (o+i*8) cs)->AllAt W l b o
 |[],_,_,_=>by unfold AllAt;trivial
 |t::r,b,o,ha=>by
  unfold AllAt;refine⟨by have:=ha 0 (by simp);rw [Nat.zero_mul,Nat.add_zero]at this;exact this,AllAt.mk r b (o+8) fun i h=>?_⟩;have:=ha (i+1) (by simpa using h);rw [show o+(i+1)*8=o+8+i*8 by omega]at this
  simpa using this
theorem xzdf {W W':World}{b o:Nat}{cs:List Value}(h:W.rangeAt b o cs)(hn:cs≠[])(hb:Below W.heap.size W W'):W'.rangeAt b o cs:=by
 obtain⟨v,r,rfl⟩:=List.exists_cons_of_ne_nil hn;have hlt:b<W.heap.size:=World.block_lt_of_cell? W ⟨b,o+0,none⟩ (h 0 v rfl);intro j x hx;exact(hb.cell (p:=⟨b,o+j,none⟩) hlt).trans (h j x hx)
theorem Tree.At.step {W W':World}(hb:Below W.heap.size W W'):∀ (T:Tree) {v:Value},Tree.At W T v->Tree.At W' T v:=by
 intro T
 induction T using Tree.ind with
 |h k m l lo hi ih=>
  intro v h;unfold Tree.At at h ⊢;obtain⟨A,c,rfl,hc,hs⟩:=h;refine⟨A,c,rfl,hc,fun hne=>?_⟩;obtain⟨b,o,rfl,ha⟩:=hs hne;refine⟨b,o,rfl,AllAt.mk l b o fun i hi=>?_⟩;obtain⟨cs,h1,h2,h3⟩:=AllAt.get l b o ha i hi;exact⟨cs,ih _ (List.getElem_mem hi) h1,h2,xzdf h3 (by intro e;subst e;simp at h2) hb⟩
theorem BlkIs.eight {w:World}{g:Nat}{t:TypeId}{a b c d e f x y:Value}(h:BlkIs w g t #[a,b,c,d,e,f,x,y]):w.cell? ⟨g,0,none⟩=some a/\w.cell? ⟨g,1,none⟩=some b/\w.cell? ⟨g,2,none⟩=some c/\w.cell? ⟨g,3,none⟩=some d/\
 w.cell? ⟨g,4,none⟩=some e/\w.cell? ⟨g,5,none⟩=some f/\w.cell? ⟨g,6,none⟩=some x/\w.cell? ⟨g,7,none⟩=some y:=
 ⟨h.cell 0,h.cell 1,h.cell 2,h.cell 3,h.cell 4,h.cell 5,h.cell 6,h.cell 7⟩
theorem Tree.At.eight {W:World}{T:Tree}{cs:List Value}(h:Tree.At W T (.agg cs.toArray)):∃ A n c,cs=reL T.kind T.set A n c T.lo T.hi:=by
 cases T with
 |node k m l lo hi=>
  unfold Tree.At at h;obtain⟨A,c,he,_⟩:=h;unfold reV at he
  injection he with he
  exact⟨A,l.length,c,by have:=congrArg Array.toList he;simp only at this;exact this⟩
theorem xzdg {W W':World}{b o:Nat}{k lo hi:Int}{m:Nat->Bool}{A:Option Addr}{n c:Nat}(h:W.rangeAt b o (reL k m A n c lo hi))(hb:Below W.heap.size W W'):
 W'.cell? ⟨b,o,none⟩=some (.int .i64 k)/\W'.cell? ⟨b,o+1,none⟩=some (.int .u64 (wd m 0:Nat))/\W'.cell? ⟨b,o+2,none⟩=some (.int .u64 (wd m 1:Nat))/\W'.cell? ⟨b,o+3,none⟩=some (.int .u64 (wd m 2:Nat))/\
 W'.cell? ⟨b,o+4,none⟩=some (.int .u64 (wd m 3:Nat))/\W'.cell? ⟨b,o+5,none⟩=some (.slice A n c)/\W'.cell? ⟨b,o+6,none⟩=some (.int .i64 lo)/\W'.cell? ⟨b,o+7,none⟩=some (.int .i64 hi):=by
 have h2:=xzdf h (by simp [reL]) hb;exact⟨h2 0 _ rfl,h2 1 _ rfl,h2 2 _ rfl,h2 3 _ rfl,h2 4 _ rfl,h2 5 _ rfl,h2 6 _ rfl,h2 7 _ rfl⟩
theorem Tree.At.open {W:World}{k:Int}{m:Nat->Bool}{l:List Tree}{lo hi:Int}{v:Value}(h:Tree.At W (.node k m l lo hi) v):
 ∃ A c,v=reV k m A l.length c lo hi/\(l.length<=c/\c<=9223372036854775807)/\(l≠[]->∃ b o,A=some ⟨b,o,none⟩/\b<W.heap.size/\∀ (i:Nat) (h:i<l.length),∃ cs:List Value,Tree.At W l[i] (.agg cs.toArray)/\cs.length=8/\W.rangeAt b (o+i*8) cs):=by
 unfold Tree.At at h;obtain⟨A,c,rfl,hc,hs⟩:=h;refine⟨A,c,rfl,hc,fun hne=>?_⟩;obtain⟨b,o,rfl,ha⟩:=hs hne;have hg:=AllAt.get l b o ha;refine⟨b,o,rfl,?_,hg⟩;have h0:0<l.length:=List.length_pos_iff.2 hne;obtain⟨cs,_,h2,h3⟩:=hg 0 h0;obtain⟨x,r,rfl⟩:∃ x r,cs=x::r:=List.exists_cons_of_ne_nil (by intro e;subst e;simp at h2);exact World.block_lt_of_cell? W ⟨b,o+0*8+0,none⟩ (h3 0 x rfl)
end Go.Proofs.YtdjpphjpnkfeiaaGreatDoor
namespace Go.Proofs.YtdjpphjpnkfeiaaGreatDoor
open Go.RowKit
mutual
def Tree.nodes:Tree->Nat
 | .node _ _ l _ _=>nodesL l+1
def nodesL:List Tree->Nat
 |[]=>0
 |t::r=>t.nodes+nodesL r
end
mutual
def Tree.deepW:Tree->Int
 | .node _ _ l _ _=>wrap64 ((deepsW l).foldl (fun d x=>if d<x then x else d) 0+1)
def deepsW:List Tree->List Int
 |[]=>[]
 |t::r=>t.deepW::deepsW r
end
def okNode (k:Int)(m:Nat->Bool)(n:Nat)(lo hi:Int):Bool:=
 if((k != 1&& !setEq m (fun _=>false))||(k != 4&&(lo != 0||hi != 0)))=true then false
 else if k=0\/k=1 then decide (n=0)
 else if k=2\/k=3 then decide (2<=n)
 else if k=4 then decide (n=1/\0<=lo/\lo<=64/\(hi= -1\/lo<=hi/\hi<=64))
 else false
mutual
def Tree.ok:Tree->Bool
 | .node k m l lo hi=>allOk l&&okNode k m l.length lo hi
def allOk:List Tree->Bool
 |[]=>true
 |t::r=>t.ok&&allOk r
end
theorem xzox:∀ {l:List Tree},allOk l=true↔ ∀ t∈l,t.ok=true
 |[]=>by simp [allOk]
 |a::l=>by simp only [allOk,Bool.and_eq_true,List.mem_cons,forall_eq_or_imp,xzox (l:=l)]
theorem xzgx:setV (fun _=>false)=.agg #[.int .u64 0,.int .u64 0,.int .u64 0,.int .u64 0]:=by
 have:∀ i,i<4->wd (fun _=>false) i=0:=by decide+kernel
 unfold setV;rw [this 0 (by omega),this 1 (by omega),this 2 (by omega),this 3 (by omega)];rfl
end Go.Proofs.YtdjpphjpnkfeiaaGreatDoor
namespace Go.Proofs.YtdjpphjpnkfeiaaGreatDoor
open Go.ChangeShapes Go.WideShapes Go.ChangeAt Go.RowKit Go.Deep
instance:Inhabited Tree:=⟨.node 0 (fun _=>false) [] 0 0⟩
section
variable {H : Type} {enc : TypeId × Value → H} {W : World} {base : Nat} {spare : Nat → Bool} {held : Bool}
theorem xzoy:Tryz.prog.cellsOf 3=1:=by kernel_rfl
end
end Go.Proofs.YtdjpphjpnkfeiaaGreatDoor
namespace Go.Proofs.YtdjpphjpnkfeiaaGreatDoor
open Go.RowKit
end Go.Proofs.YtdjpphjpnkfeiaaGreatDoor
namespace Go.Proofs.YtdjpphjpnkfeiaaGreatDoor
open Go.RowKit
attribute [local irreducible] FreeW
def IntsV (W:World)(l:List Int)(v:Value):Prop:=∃ A c,v=.slice A l.length c/\(l.length<=c/\c<=9223372036854775807)/\(l≠[]->∃ b o,A=some ⟨b,o,none⟩/\b<W.heap.size/\∀ (i:Nat) (h:i<l.length),W.cell? ⟨b,o+i,none⟩=some (.int .i64 l[i]))
theorem IntsV.step {W W':World}{l:List Int}{v:Value}(h:IntsV W l v)(hb:Below W.heap.size W W'):IntsV W' l v:=by
 obtain⟨A,c,e,hc,hs⟩:=h;refine⟨A,c,e,hc,fun hne=>?_⟩;obtain⟨b,o,e2,hlt,hg⟩:=hs hne;exact⟨b,o,e2,Nat.lt_of_lt_of_le hlt hb.size,fun i hi=>(hb.cell (p:=⟨b,o+i,none⟩) hlt).trans (hg i hi)⟩
theorem IntsV.nil (W:World):IntsV W [] (.slice none 0 0):=⟨none,0,rfl,⟨Nat.le_refl _,by decide⟩,fun h=>absurd rfl h⟩
def risesB (all:Int):Int->List Int->Bool
 |_,[]=>true
 |a,p::r=>(decide (a<p)&&decide (p<all))&&risesB all p r
set_option maxHeartbeats 2000000 in
theorem xzld (l:List Int)(v:Value)(all:Int)(w:World)(hv:IntsV w l v):Calls Tryz.prog 81 #[v,.int .i64 all] w fun e w'=>e=.returned (.bool (risesB all (-1) l))/\w'=w:=by
 obtain⟨A,c,rfl,hc,hs⟩:=hv;have HS:=zd hs;obtain⟨R,hR⟩:∃ R,R=risesB all (-1) l:=⟨_,rfl⟩;rw [<-hR];have HR:=zd hR;clear hs hR
 go_enter Tryz.func81,Tryz.ntmps81
 go_wp2
 go_loopw [5,10] (fun s i wr=>∃ (j:Nat) (a:Int),s=.int .i64 a/\i=.int .i64 j/\j<=l.length/\Hid (wr=w/\R=risesB all a (l.drop j))) (fun _ i _=>l.length - (intOf i).toNat)
 case atStart=>exact⟨0, -1,rfl,rfl,Nat.zero_le _,zd ⟨rfl,HR.out⟩⟩
 case round=>
  obtain⟨j,a,rfl,rfl,hj,HH⟩:=hrel;obtain⟨rfl,hRR⟩:=HH.out;have HH:=zd hRR;clear hRR
  by_cases hp:j<l.length
  ·have hk1:IntKind.i64.wrap ((j:Int)+1)=((j+1:Nat):Int):=by rw [IntKind.wrap_i64];omega
   have hdl:decide ((j:Int)<(l.length:Int))=true:=by simp;omega
   obtain⟨b,o,rfl,hlt,hg⟩:=HS.out (by intro e;subst e;simp at hp);have hcell:=hg j hp;have hd:=HH.out;rw [List.drop_eq_getElem_cons hp]at hd;unfold risesB at hd;clear hg;generalize l[j]=p at*;have HD:=zd hd;clear hd
   by_cases h1:a<p
   ·have e1:decide (p<=a)=false:=by simp;omega
    by_cases h2:p<all
    ·have e2:decide (p>=all)=false:=by simp;omega
     have e2b:decide (all<=p)=false:=by simp;omega
     have HN:=zd (show R=risesB all p (l.drop (j+1))by rw [HD.out];simp [h1,h2]);clear h1 h2;go_wp2;exact⟨⟨j+1,p,rfl,rfl,hp,zd ⟨by trivial,HN.out⟩⟩,by simp [intOf];omega⟩
    ·have e2:decide (p>=all)=true:=by simp;omega
     have e2b:decide (all<=p)=true:=by simp;omega
     have HN:=zd (show R=false by rw [HD.out];simp [h2]);clear h1 h2;go_wp2;go_ret;exact⟨by rw [HN.out];rfl,rfl⟩
   ·have e1:decide (p<=a)=true:=by simp;omega
    have HN:=zd (show R=false by rw [HD.out];simp [h1]);clear h1;go_wp2;go_ret;exact⟨by rw [HN.out];rfl,rfl⟩
  ·have hdl:decide ((j:Int)<(l.length:Int))=false:=by simp;omega
   have HN:=zd (show R=true by rw [HH.out,List.drop_eq_nil_of_le (by omega)];rfl);go_wp2;go_ret;exact⟨by rw [HN.out];rfl,rfl⟩
theorem six {w:World}{g:Nat}{t:TypeId}{a b c d e f:Value}(h:BlkIs w g t #[a,b,c,d,e,f]):w.cell? ⟨g,0,none⟩=some a/\w.cell? ⟨g,1,none⟩=some b/\w.cell? ⟨g,2,none⟩=some c/\w.cell? ⟨g,3,none⟩=some d/\w.cell? ⟨g,4,none⟩=some e/\w.cell? ⟨g,5,none⟩=some f:=by
 refine⟨?_,?_,?_,?_,?_,?_⟩
 ·simpa using h.cell 0
 ·simpa using h.cell 1
 ·simpa using h.cell 2
 ·simpa using h.cell 3
 ·simpa using h.cell 4
 ·simpa using h.cell 5
end Go.Proofs.YtdjpphjpnkfeiaaGreatDoor
namespace Go.Proofs.YtdjpphjpnkfeiaaGreatDoor
open Go.RowKit
structure Nf where
 sets:List (Nat->Bool)
 rules:List Int
 first:List Int
 follow:List (List Int)
 ends:List Bool
 empty:Int
def SetsV (W:World)(ms:List (Nat->Bool))(v:Value):Prop:=∃ A c,v=.slice A ms.length c/\(ms.length<=c/\c<=9223372036854775807)/\(ms≠[]->∃ b o,A=some ⟨b,o,none⟩/\b<W.heap.size/\∀ (i:Nat) (h:i<ms.length) (k:Nat),k<4->W.cell? ⟨b,o+i*4+k,none⟩=some (.int .u64 (wd ms[i] k:Nat)))
def BoolsV (W:World)(l:List Bool)(v:Value):Prop:=∃ A c,v=.slice A l.length c/\(l.length<=c/\c<=9223372036854775807)/\(l≠[]->∃ b o,A=some ⟨b,o,none⟩/\b<W.heap.size/\∀ (i:Nat) (h:i<l.length),W.cell? ⟨b,o+i,none⟩=some (.bool l[i]))
def RowsI (W:World)(ll:List (List Int))(v:Value):Prop:=∃ A c,v=.slice A ll.length c/\(ll.length<=c/\c<=9223372036854775807)/\(ll≠[]->∃ b o,A=some ⟨b,o,none⟩/\b<W.heap.size/\∀ (i:Nat) (h:i<ll.length),∃ u,W.cell? ⟨b,o+i,none⟩=some u/\IntsV W ll[i] u)
def NfaAt (W:World)(N:Nf)(v:Value):Prop:=∃ v0 v1 v2 v3 v4,v=.agg #[v0,v1,v2,v3,v4,.int .i64 N.empty]/\SetsV W N.sets v0/\IntsV W N.rules v1/\IntsV W N.first v2/\RowsI W N.follow v3/\BoolsV W N.ends v4
theorem SetsV.step {W W':World}{l:List (Nat->Bool)}{v:Value}(h:SetsV W l v)(hb:Below W.heap.size W W'):SetsV W' l v:=by
 obtain⟨A,c,e,hc,hs⟩:=h;refine⟨A,c,e,hc,fun hne=>?_⟩;obtain⟨b,o,e2,hlt,hg⟩:=hs hne;exact⟨b,o,e2,Nat.lt_of_lt_of_le hlt hb.size,fun i hi k hk=>(hb.cell (p:=⟨b,o+i*4+k,none⟩) hlt).trans (hg i hi k hk)⟩
theorem BoolsV.step {W W':World}{l:List Bool}{v:Value}(h:BoolsV W l v)(hb:Below W.heap.size W W'):BoolsV W' l v:=by
 obtain⟨A,c,e,hc,hs⟩:=h;refine⟨A,c,e,hc,fun hne=>?_⟩;obtain⟨b,o,e2,hlt,hg⟩:=hs hne;exact⟨b,o,e2,Nat.lt_of_lt_of_le hlt hb.size,fun i hi=>(hb.cell (p:=⟨b,o+i,none⟩) hlt).trans (hg i hi)⟩
theorem RowsI.step {W W':World}{l:List (List Int)}{v:Value}(h:RowsI W l v)(hb:Below W.heap.size W W'):RowsI W' l v:=by
 obtain⟨A,c,e,hc,hs⟩:=h;refine⟨A,c,e,hc,fun hne=>?_⟩;obtain⟨b,o,e2,hlt,hg⟩:=hs hne;refine⟨b,o,e2,Nat.lt_of_lt_of_le hlt hb.size,fun i hi=>?_⟩;obtain⟨u,h1,h2⟩:=hg i hi;exact⟨u,(hb.cell (p:=⟨b,o+i,none⟩) hlt).trans h1,h2.step hb⟩
theorem NfaAt.step {W W':World}{N:Nf}{v:Value}(h:NfaAt W N v)(hb:Below W.heap.size W W'):NfaAt W' N v:=by
 obtain⟨v0,v1,v2,v3,v4,e,h0,h1,h2,h3,h4⟩:=h;exact⟨v0,v1,v2,v3,v4,e,h0.step hb,h1.step hb,h2.step hb,h3.step hb,h4.step hb⟩
def okR (r:Int):Bool:=decide (0<=r)&&decide (r<40)
def Nf.sized (N:Nf):Bool:=(decide (N.sets.length<=2000)&&(N.rules.length==N.sets.length))&&((N.follow.length==N.sets.length)&&(N.ends.length==N.sets.length))
def Nf.rest (N:Nf):Bool:=risesB N.sets.length (-1) N.first&&(decide (-1<=N.empty)&&decide (N.empty<40))
def Nf.follows (N:Nf):Bool:=N.follow.all (risesB N.sets.length (-1))
def Nf.may (N:Nf):Bool:=N.sized&&(N.rules.all okR&&(N.follow.all (risesB N.sets.length (-1))&&N.rest))
set_option maxRecDepth 20000 in
set_option maxHeartbeats 8000000 in
theorem yzdk (N:Nf)(v:Value)(w:World)(h:NfaAt w N v):Calls Tryz.prog 62 #[v] w fun e w'=>e=.returned (.bool N.may)/\Below w.heap.size w w':=by
 obtain⟨v0,v1,v2,v3,v4,rfl,hs0,hs1,hs2,hs3,hs4⟩:=h;have hb0:=(Below.refl w.heap.size w).alloc (Nat.le_refl _) (.cells #[v0,v1,v2,v3,v4,.int .i64 N.empty] 86);have hr1:=hs1.step hb0;have hr2:=hs2.step hb0;have hr3:=hs3.step hb0;obtain⟨A0,c0,rfl,hc0,hx0⟩:=hs0;obtain⟨A4,c4,rfl,hc4,hx4⟩:=hs4;have HR2:=zd (xzld N.first v2 N.sets.length _ hr2);obtain⟨A1,c1,rfl,hc1,hg1⟩:=hr1;obtain⟨A2,c2,rfl,hc2,hg2⟩:=hr2;obtain⟨A3,c3,rfl,hc3,hg3⟩:=hr3;have hx:=BlkIs.new w 86 #[.slice A0 N.sets.length c0,.slice A1 N.rules.length c1,.slice A2 N.first.length c2,.slice A3 N.follow.length c3,.slice A4 N.ends.length c4,.int .i64 N.empty];obtain⟨R,hR⟩:∃ R,R=N.may:=⟨_,rfl⟩;rw [<-hR];unfold Nf.may Nf.sized Nf.rest at hR;obtain⟨W1,hW1⟩:∃ W1,w.alloc (.cells #[.slice A0 N.sets.length c0,.slice A1 N.rules.length c1,.slice A2 N.first.length c2,.slice A3 N.follow.length c3,.slice A4 N.ends.length c4,.int .i64 N.empty] 86)=W1:=⟨_,rfl⟩;rw [hW1]at hb0 hx HR2 hg1 hg3;obtain⟨d0,d1,d2,d3,d4,d5⟩:=six hx;have HB:=zd hb0;have HG1:=zd hg1;have HG3:=zd hg3;clear hs1 hs2 hs3 hb0 hx hg1 hg2 hg3 hx0 hx4;generalize N.empty=em at*;generalize N.first=fi at*;generalize N.rules=ru at*;generalize N.follow=fo at*;generalize N.ends.length=n4 at*;generalize N.sets.length=n0 at*
 by_cases hk:n0<=2000
 case neg=>
  have e0:decide ((n0:Int)>2000)=true:=by simp;omega
  have e0b:decide ((2000:Int)<(n0:Int))=true:=by simp;omega
  have HN:=zd (show R=false by rw [hR];simp [hk]);clear hR hk
  go_enter Tryz.func62,Tryz.ntmps62
  go_wp2;go_ret;exact⟨by rw [HN.out];rfl,HB.out⟩
 have e0:decide ((n0:Int)>2000)=false:=by simp;omega
 have e0b:decide ((2000:Int)<(n0:Int))=false:=by simp;omega
 by_cases h1:ru.length=n0
 case neg=>
  have e1:((ru.length:Int) != (n0:Int))=true:=by simp;omega
  have HN:=zd (show R=false by rw [hR];simp [h1]);clear hR hk h1
  go_enter Tryz.func62,Tryz.ntmps62
  go_wp2;go_ret;exact⟨by rw [HN.out];rfl,HB.out⟩
 have e1:((ru.length:Int) != (n0:Int))=false:=by simp;omega
 by_cases h3:fo.length=n0
 case neg=>
  have e3:((fo.length:Int) != (n0:Int))=true:=by simp;omega
  have HN:=zd (show R=false by rw [hR];simp [h3]);clear hR hk h1 h3
  go_enter Tryz.func62,Tryz.ntmps62
  go_wp2;go_ret;exact⟨by rw [HN.out];rfl,HB.out⟩
 have e3:((fo.length:Int) != (n0:Int))=false:=by simp;omega
 by_cases h4:n4=n0
 case neg=>
  have e4:((n4:Int) != (n0:Int))=true:=by simp;omega
  have HN:=zd (show R=false by rw [hR];simp [h4]);clear hR hk h1 h3 h4
  go_enter Tryz.func62,Tryz.ntmps62
  go_wp2;go_ret;exact⟨by rw [HN.out];rfl,HB.out⟩
 have e4:((n4:Int) != (n0:Int))=false:=by simp;omega
 have HN:=zd (show R=(ru.all okR&&(fo.all (risesB n0 (-1))&&(risesB n0 (-1) fi&&(decide (-1<=em)&&decide (em<40)))))by rw [hR];simp [h1,h3,h4,hk]);clear hR hk h1 h3 h4
 go_enter Tryz.func62,Tryz.ntmps62
 go_wp2
 go_loopw [37] (fun i wr=>∃ j:Nat,i=.int .i64 j/\j<=ru.length/\Hid (wr=W1/\R=((ru.drop j).all okR&&(fo.all (risesB n0 (-1))&&(risesB n0 (-1) fi&&(decide (-1<=em)&&decide (em<40))))))) (fun i _=>ru.length - (intOf i).toNat)
 case atStart=>exact⟨0,rfl,Nat.zero_le _,zd ⟨by trivial,HN.out⟩⟩
 case round=>
  obtain⟨j,rfl,hj,HH⟩:=hrel;obtain⟨rfl,hRR⟩:=HH.out;have HH:=zd hRR;clear hRR
  by_cases hp:j<ru.length
  ·have hk1:IntKind.i64.wrap ((j:Int)+1)=((j+1:Nat):Int):=by rw [IntKind.wrap_i64];omega
   have hdl:decide ((j:Int)<(ru.length:Int))=true:=by simp;omega
   obtain⟨b,o,rfl,hlt,hg⟩:=HG1.out (by intro e;subst e;simp at hp);have hcell:=hg j hp;have hd:=HH.out;rw [List.drop_eq_getElem_cons hp,List.all_cons]at hd;unfold okR at hd;clear hg;generalize ru[j]=p at*;have HD:=zd hd;clear hd
   by_cases g1:p<0
   ·have q1:decide (p<0)=true:=by simp;omega
    have HF:=zd (show R=false by rw [HD.out];simp;intro;omega);clear g1;go_wp2;go_ret;exact⟨by rw [HF.out];rfl,HB.out⟩
   ·have q1:decide (p<0)=false:=by simp;omega
    by_cases g2:40<=p
    ·have q2:decide (p>=40)=true:=by simp;omega
     have q2b:decide (40<=p)=true:=by simp;omega
     have HF:=zd (show R=false by rw [HD.out];simp;intro;omega);clear g1 g2;go_wp2;go_ret;exact⟨by rw [HF.out];rfl,HB.out⟩
    ·have q2:decide (p>=40)=false:=by simp;omega
     have q2b:decide (40<=p)=false:=by simp;omega
     have HF:=zd (show R=((ru.drop (j+1)).all okR&&(fo.all (risesB n0 (-1))&&(risesB n0 (-1) fi&&(decide (-1<=em)&&decide (em<40)))))by rw [HD.out,show decide (0<=p)=true by simp;omega,show decide (p<40)=true by simp;omega];rfl);clear g1 g2;go_wp2;exact⟨⟨j+1,rfl,hp,zd ⟨by trivial,HF.out⟩⟩,by simp [intOf];omega⟩
  ·have hdl:decide ((j:Int)<(ru.length:Int))=false:=by simp;omega
   have HN2:=zd (show R=(fo.all (risesB n0 (-1))&&(risesB n0 (-1) fi&&(decide (-1<=em)&&decide (em<40))))by rw [HH.out,List.drop_eq_nil_of_le (by omega)];rfl);go_wp2
   go_loopw [51] (fun i wz=>∃ q:Nat,i=.int .i64 q/\q<=fo.length/\Hid (Below wr.heap.size wr wz/\wz=wr/\R=((fo.drop q).all (risesB n0 (-1))&&(risesB n0 (-1) fi&&(decide (-1<=em)&&decide (em<40)))))) (fun i _=>fo.length - (intOf i).toNat)
   case atStart=>exact⟨0,rfl,Nat.zero_le _,zd ⟨Below.refl _ _,rfl,HN2.out⟩⟩
   case round=>
    obtain⟨q,rfl,hq,HK⟩:=hrel;obtain⟨_,rfl,hRR⟩:=HK.out;have HK:=zd hRR;clear hRR
    by_cases hpq:q<fo.length
    ·have hk1:IntKind.i64.wrap ((q:Int)+1)=((q+1:Nat):Int):=by rw [IntKind.wrap_i64];omega
     have hdq:decide ((q:Int)<(fo.length:Int))=true:=by simp;omega
     obtain⟨b,o,rfl,hlt,hg⟩:=HG3.out (by intro e;subst e;simp at hpq);obtain⟨u,hcell,hrow⟩:=hg q hpq;have hcall:=xzld _ u n0 _ hrow;obtain⟨Ar,cr,rfl,_,_⟩:=hrow;have hd:=HK.out;rw [List.drop_eq_getElem_cons hpq,List.all_cons]at hd;clear hg;generalize fo[q]=row at*;generalize risesB n0 (-1) row=rb at*;have HC:=zd hcall;have HD:=zd hd;clear hcall hd
     cases rb with
     |true=>
      go_wp2_with fail
      go_at_call 81
      refine HC.out.mono ?_;rintro e u2 ⟨rfl,rfl⟩;go_wp2;exact⟨⟨q+1,rfl,hpq,zd ⟨Below.refl _ _,by trivial,by rw [HD.out];rfl⟩⟩,by simp [intOf];omega⟩
     |false=>
      go_wp2_with fail
      go_at_call 81
      refine HC.out.mono ?_;rintro e u2 ⟨rfl,rfl⟩;go_wp2;go_ret;exact⟨by rw [HD.out];rfl,HB.out⟩
    ·have hdq:decide ((q:Int)<(fo.length:Int))=false:=by simp;omega
     have HN3:=zd (show R=(risesB n0 (-1) fi&&(decide (-1<=em)&&decide (em<40)))by rw [HK.out,List.drop_eq_nil_of_le (by omega)];rfl);generalize risesB n0 (-1) fi=rb at*;generalize hm1:decide (-1<=em)=g1 at*;generalize hm2:decide (em<40)=g2 at*;have hm1b:decide (em>= -1)=g1:=hm1
     cases rb<;>cases g1<;>cases g2<;>
     (go_wp2_with fail
      go_at_call 81
      refine HR2.out.mono ?_;rintro e u2 ⟨rfl,rfl⟩;go_wp2;go_ret
      exact⟨by rw [HN3.out];rfl,HB.out⟩)
end Go.Proofs.YtdjpphjpnkfeiaaGreatDoor
