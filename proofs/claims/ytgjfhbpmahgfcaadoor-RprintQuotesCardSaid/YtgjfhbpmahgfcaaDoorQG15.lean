/-
 WHAT setText ANSWERS: a Set, written: a contract. Condition: math/bits' table lies where it lies.
-/
import Derived.Test.YtgjfhbpmahgfcaaDoorQG14
import Derived.Test.YtgjfhbpmahgfcaaDoorQG10
import Derived.Test.YtgjfhbpmahgfcaaDoorQG05
import Derived.Test.YtgjfhbpmahgfcaaDoorQG08
import Derived.Test.YtgjfhbpmahgfcaaDoorQG09
namespace Go.Proofs.YtgjfhbpmahgfcaaDoor
section
open Go.RowKit
def signsB:ByteArray:=⟨#[124,42,43,63,123,125,40,41,91,93,46,60,62,47,92]⟩
def classB:ByteArray:=⟨#[91,93,47,92,94,45]⟩
def byB (s:ByteArray)(b:Int):ByteArray:=⟨(oneL s.data.toList b.toNat).toArray⟩
def stepR (acc:ByteArray)(x:Int×Int):ByteArray:=if x.1<x.2 then(acc++byB classB x.1)++(⟨#[45]⟩++byB classB x.2)else acc++byB classB x.1
def accR (pre:List (Int×Int)):ByteArray:=pre.foldl stepR ⟨#[91]⟩
def setB (m:Nat->Bool):ByteArray:=if cntN m 256=1 then byB signsB (IntKind.u8.wrap (nextS m 0))else if cntN m 256=256 then⟨#[46]⟩else accR (rangesOf m)++⟨#[93]⟩
theorem xzlr (s:List UInt8)(b:Nat):(oneL s b).length<=4:=by
 unfold oneL
 repeat' split
 all_goals simp
theorem xzcd (s:ByteArray)(b:Int):(byB s b).size<=4:=by
 have:=xzlr s.data.toList b.toNat;unfold byB
 simpa [ByteArray.size]using this
theorem xzjh (acc:ByteArray)(x:Int×Int):(stepR acc x).size<=acc.size+9:=by
 have h1:=xzcd classB x.1;have h2:=xzcd classB x.2;have e:(ByteArray.mk #[45]).size=1:=rfl;unfold stepR
 split
 ·simp only [ByteArray.size_append];omega
 ·simp only [ByteArray.size_append];omega
theorem xzda:∀ (pre:List (Int×Int)) (acc:ByteArray),(pre.foldl stepR acc).size<=acc.size+9*pre.length
 |[],acc=>by simp
 |x::r,acc=>by
  have h1:=xzda r (stepR acc x);have h2:=xzjh acc x;simp only [List.foldl_cons,List.length_cons];omega
theorem xzfd (m:Nat->Bool):(setB m).size<=4000:=by
 have h1:=xzcd signsB (IntKind.u8.wrap (nextS m 0));have h2:=xzda (rangesOf m) ⟨#[91]⟩;have h3:=xzcz m 257 (nextS m 0);have e1:(ByteArray.mk #[46]).size=1:=rfl;have e2:(ByteArray.mk #[93]).size=1:=rfl;have e3:(ByteArray.mk #[91]).size=1:=rfl;unfold setB accR;unfold rangesOf at*
 split
 ·omega
 ·split
  ·omega
  ·rw [ByteArray.size_append];omega
theorem by_any (s:ByteArray)(b:Int)(h0:0<=b)(h1:b<=255)(u:World):Calls Tryd.prog 76 #[.int .u8 b,.string s] u fun e u'=>e=.returned (.string (byB s b))/\Below u.heap.size u u':=by
 obtain⟨k,rfl⟩:∃ k:Nat,b=(k:Int):=⟨b.toNat,by omega⟩;exact xzei k (by omega) s u
theorem xzhs (m:Nat->Bool)(u:World):Calls Tryd.prog 78 #[setV m] u fun e u'=>e=.returned (.func (.func 92) #[] #[.pointer (some ⟨u.heap.size,0,none⟩)])/\u'=u.alloc (.cells (set4 m).toArray 30):=by
 unfold setV set4
 go_enter Tryd.func78,Tryd.ntmps78
 go_wp2;go_ret;exact⟨rfl,rfl⟩
def JJ (w:World)(m:Nat->Bool)(bs bt b2:Nat)(pre:List (Int×Int))(W:World):Prop:=Below w.heap.size w W/\BlkIs W bs 30 (set4 m).toArray/\BlkIs W bt 9 #[.string (accR pre)]/\BlkIs W b2 30 (set4 m).toArray
theorem JJ.below {w:World}{m:Nat->Bool}{bs bt b2:Nat}{pre:List (Int×Int)}{W W':World}(h:JJ w m bs bt b2 pre W)(hb:Below W.heap.size W W'):JJ w m bs bt b2 pre W':=
 ⟨h.1.trans (hb.mono h.1.size),h.2.1.step hb,h.2.2.1.step hb,h.2.2.2.step hb⟩
theorem JJ.put {w:World}{m:Nat->Bool}{bs bt b2:Nat}{pre:List (Int×Int)}{W:World}(h:JJ w m bs bt b2 pre W){l:Nat}{o:Obj}(o':Obj)(hw:w.heap.size<=l)(hl:W.heap[l]? =some o)(ho:o.isCells=false):JJ w m bs bt b2 pre (W.putObj l o'):=
 ⟨h.1.trans ((Below.refl _ _).grown (grownBy_putObj' W l o') h.1.size (fun k e=>by cases e;omega)),xzbc o' h.2.1 hl ho,xzbc o' h.2.2.1 hl ho,xzbc o' h.2.2.2 hl ho⟩
attribute [local go_sem] Oper.semAt_some
set_option maxRecDepth 100000 in
set_option maxHeartbeats 8000000 in
theorem xzfy (m:Nat->Bool)(w:World)(hT:Tab w):Calls Tryd.prog 64 #[setV m] w fun e w'=>e=.returned (.string (setB m))/\Below w.heap.size w w':=by
 have HC:=zd (fun u=>xzij m u);have hb1:Below w.heap.size w (w.alloc (.cells (set4 m).toArray 30)):=(Below.refl _ _).alloc (Nat.le_refl _) _;have HB1:=zd (And.intro hb1 (BlkIs.new w 30 (set4 m).toArray));have HT:=zd hT;have HN:=zd (fun(u:World) (h:Tab u)=>xzhq m 0 (by omega) u h);have HBY:=zd (fun(s:ByteArray) (b:Int) (h0:0<=b) (h1:b<=255) (u:World)=>by_any s b h0 h1 u);have HR:=zd (fun u=>xzhs m u);clear hb1 hT;refine(callsIn_wide (n:=5)).1 ?_;refine callsIn_of_wp_marks Tryd.func64 rfl trivial ?_ rfl;unfold setV at*;unfold set4 at HB1 HR;simp only [Tryd.ntmps64,List.size_toArray,List.length_cons,List.length_nil,Nat.reduceAdd,Nat.reduceSub,Array.replicate_succ,Array.replicate_zero,List.push_toArray,List.append_toArray,List.nil_append,List.cons_append];refine wpIn_wide.2 ?_;obtain⟨R,hR⟩:∃ R,R=setB m:=⟨_,rfl⟩;rw [<-hR];obtain⟨c,hc⟩:∃ c,c=cntN m 256:=⟨_,rfl⟩;rw [<-hc]at HC;unfold setB at hR;rw [<-hc]at hR;have HRR:=zd hR;clear hR hc
 go_wp2_with fail
 go_at_call 75
 refine(HC.out _).mono ?_;rintro e u1 ⟨rfl,hb2⟩;have HB2:=zd (And.intro (HB1.out.1.trans (hb2.mono HB1.out.1.size)) (HB1.out.2.step hb2));obtain⟨c0,c1,c2,c3,_⟩:=(HB1.out.2.step hb2).four;have hlt:=(HB1.out.2.step hb2).lt
 have hne: ¬ w.heap.size=u1.heap.size:=by omega
 clear hb2
 by_cases h1:c=1
 ·subst h1
  have hr:=HRR.out;rw [if_pos rfl]at hr;have HRE:=zd hr;clear hr HRR
  go_wp2_with fail
  go_at_call 77
  refine(HN.out u1 (HT.out.step HB2.out.1)).mono ?_;rintro e u2 ⟨rfl,hb3⟩;have HB3:=zd (HB2.out.1.trans (hb3.mono HB2.out.1.size))
  have hwr:0<=IntKind.u8.wrap (nextS m 0)/\IntKind.u8.wrap (nextS m 0)<=255:=by rw [IntKind.wrap_u8];omega
  have HWR:=zd hwr;have HBB:=zd (HBY.out signsB _ hwr.1 hwr.2 u2);clear hb3 c0 c1 c2 c3 hwr;unfold signsB at HBB
  go_wp2_with fail
  go_at_call 76
  refine HBB.out.mono ?_;rintro e u3 ⟨rfl,hb4⟩;have HB4:=zd (HB3.out.trans (hb4.mono HB3.out.size));clear hb4;go_wp2;refine⟨_,results_tmp (t:=2) rfl _ _ _,?_,HB4.out⟩;exact congrArg (fun x=>Ending.returned (.string x)) HRE.out.symm
 have e1:((c:Int)==1)=false:=by simp;omega
 by_cases h2:c=256
 ·subst h2
  have hr:=HRR.out;rw [if_neg (by decide),if_pos rfl]at hr;have HRE:=zd hr;clear hr HRR;go_wp2;refine⟨_,results_tmp (t:=2) rfl _ _ _,?_,HB2.out.1⟩;exact congrArg (fun x=>Ending.returned (.string x)) HRE.out.symm
 have e2:((c:Int)==256)=false:=by simp;omega
 have hr:=HRR.out;rw [if_neg h1,if_neg h2]at hr;have HRE:=zd hr;clear hr HRR
 go_wp2_with(first|(go_at_call 78;go_must(refine(HR.out _).mono ?_);rintro e u2 ⟨rfl,rfl⟩))
 obtain⟨W1,hW1⟩:∃ W1,(u1.alloc (.cells #[.string ⟨#[91]⟩] 9)).alloc (.cells (set4 m).toArray 30)=W1:=⟨_,rfl⟩
 change Code.wp _ _ _ _ ((u1.alloc (.cells #[.string ⟨#[91]⟩] 9)).alloc (.cells (set4 m).toArray 30))
 rw [hW1]
 have hbW:Below u1.heap.size u1 W1:=by rw [<-hW1];exact((Below.refl _ _).alloc (Nat.le_refl _) _).alloc (by simp) _
 have hx1:BlkIs W1 u1.heap.size 9 #[.string ⟨#[91]⟩]:=by rw [<-hW1];exact(BlkIs.new u1 _ _).alloc _
 have hx2:BlkIs W1 (u1.heap.size+1) 30 (set4 m).toArray:=by
  have:=BlkIs.new (u1.alloc (.cells #[.string ⟨#[91]⟩] 9)) 30 (set4 m).toArray;rw [World.size_alloc]at this;rw [<-hW1];exact this
 have hsz:W1.heap.size=u1.heap.size+2:=by rw [<-hW1];simp
 have hj0:JJ w m w.heap.size u1.heap.size (u1.heap.size+1) [] W1:=⟨HB2.out.1.trans (hbW.mono HB2.out.1.size),HB2.out.2.step hbW,hx1,hx2⟩;have HJ0:=zd hj0;clear hj0 hx1 hx2 hbW c0 c1 c2 c3 hW1;refine(wpIn_wide (n:=5)).1 ?_
 refine xzew (σ:=List (Int×Int)×(Int×Int)) rfl (by omega) (gf:=92) (bd:=#[]) (lb:=#[.pointer (some ⟨u1.heap.size+1,0,none⟩)]) rfl trivial (enters_of Tryd.func92 (by kernel_rfl) rfl)
  (fun s=>#[.int .u8 s.2.1,.int .u8 s.2.2]) (fun _=>rfl) (fun _ _=>True) (fun _ _=>trivial) (fun _ _ _ _ _ _ _=>trivial)
  (fun s W=>JJ w m w.heap.size u1.heap.size (u1.heap.size+1) s.1 W/\s.1.length<257/\0<=s.2.1/\s.2.1<=s.2.2/\s.2.2<=255)
  (fun s W=>JJ w m w.heap.size u1.heap.size (u1.heap.size+1) (s.1++[s.2]) W) (fun _ _=>False) (JJ w m w.heap.size u1.heap.size (u1.heap.size+1) (rangesOf m))
  ?_ ?_ (fun _ _ _ _ _ h=>h.elim) ?_ ?_
  (fun s=>{tmps:=#[.agg #[.int .u64 (wd m 0:Nat),.int .u64 (wd m 1:Nat),.int .u64 (wd m 2:Nat),.int .u64 (wd m 3:Nat)],.pointer (some ⟨w.heap.size,0,none⟩),.string ⟨#[]⟩,.pointer (some ⟨u1.heap.size,0,none⟩),.int .u8 s.2.1,.int .u8 s.2.2,.agg #[.int .u64 (wd m 0:Nat),.int .u64 (wd m 1:Nat),.int .u64 (wd m 2:Nat),.int .u64 (wd m 3:Nat)],
   .int .i64 (c:Nat),.bool false,.bool false,undef,undef,undef,undef,.bool false,.bool false,.agg #[.int .u64 (wd m 0:Nat),.int .u64 (wd m 1:Nat),.int .u64 (wd m 2:Nat),.int .u64 (wd m 3:Nat)],.func (.func 92) #[] #[.pointer (some ⟨u1.heap.size+1,0,none⟩)],.int .u8 s.2.1,.int .u8 s.2.2,
   undef,undef,undef,undef,undef,undef,undef,undef,undef,undef,undef,undef,undef,undef],defers:=[]})
  ?assign ?body ?done ?stop
 ·rintro s W l o o' ⟨h1,h2⟩ hB hl ho
  exact⟨h1.put o' (by have:=HB2.out.1.size;omega) hl ho,h2⟩
 ·rintro s W l o o' h1 hB hl ho
  exact h1.put o' (by have:=HB2.out.1.size;omega) hl ho
 ·rintro W l o o' h1 hB hl ho
  exact h1.put o' (by have:=HB2.out.1.size;omega) hl ho
 ·intro l G X hG hY W hb hk hg
  refine(callsIn_wide.2 (callsIn_wide.1 (xzhr l (u1.heap.size+1) m (fun pre W=>JJ w m w.heap.size u1.heap.size (u1.heap.size+1) pre W/\G W) X (fun pre A B h hb=>⟨h.1.below hb,hG _ _ h.2 (xzam hb)⟩) (fun pre A h=>⟨h.1.2.2.2,HT.out.step h.1.1⟩) (fun pre x A h h1 h2 h3 h4=>?_) W ⟨HJ0.out.below hb,hg⟩))).mono ?_
  ·refine(YieldAt.anyN (hY (pre,x) A ⟨h.1,h1,h2,h3,h4⟩ h.2)).mono fun e B hh=>hh.imp (fun hh=>⟨hh.1,hh.2.1,hh.2.2.2⟩) id
  ·exact fun e B h=>h
 case assign=>
  intro l s W K hK
  gi_wp2
  exact hK
 case done=>
  rintro D W hD hj hdD;have hcell:=hj.2.2.1.cell 0;simp only [zq]at hcell;have hsza:=xzda (rangesOf m) ⟨#[91]⟩;have hrl:=xzcz m 257 (nextS m 0)
  have hsz2:(accR (rangesOf m)).size<=4000:=by
   have e3:(ByteArray.mk #[91]).size=1:=rfl;unfold accR;unfold rangesOf at*;omega
  have HJD:=zd hj;clear hj hsza hrl;generalize hga:accR (rangesOf m)=ga at*;go_wp2;refine⟨by simp,.inl ⟨_,_,rfl,run_takeDeferred hdD,?_⟩⟩;refine⟨_,results_tmp (t:=2) rfl _ _ _,?_,HJD.out.1.trans (belowK_b (w:=w) (Nat.le_refl _) W D _ (.deferred none) (by have:=HB2.out.1.size;omega) hdD rfl rfl)⟩;exact congrArg (fun x=>Ending.returned (.string x)) HRE.out.symm
 case stop=>exact fun _ _ _ _ h _=>h.elim
 case body=>
  rintro l ⟨pre,x,y⟩ W hW ⟨hj,hl257,hx0,hxy,hy255⟩
  dsimp only at hj hl257 hx0 hxy hy255
  have hacc:(accR pre).size<=2400:=by
   have h:=xzda pre ⟨#[91]⟩;have e3:(ByteArray.mk #[91]).size=1:=rfl;unfold accR;omega
  have hbx:=xzcd classB x;have hby:=xzcd classB y;have HJ:=zd hj
  have hcell:∀ u,Below W.heap.size W u->u.cell? ⟨u1.heap.size,0,none⟩=some (.string (accR pre))/\u.frozen? ⟨u1.heap.size,0,none⟩=false:=fun u hu=>⟨(hj.2.2.1.step hu).cell 0,(hj.2.2.1.step hu).frozen 0⟩
  have HCE:=zd hcell;have HB1':=zd (show ∀ u:World,Calls Tryd.prog 76 #[.int .u8 x,.string ⟨#[91,93,47,92,94,45]⟩] u fun e u'=>e=.returned (.string (byB classB x))/\Below u.heap.size u u' from fun u=>HBY.out classB x hx0 (by omega) u);have HB2':=zd (show ∀ u:World,Calls Tryd.prog 76 #[.int .u8 y,.string ⟨#[91,93,47,92,94,45]⟩] u fun e u'=>e=.returned (.string (byB classB y))/\Below u.heap.size u u' from fun u=>HBY.out classB y (by omega) hy255 u)
  have HSTEP:accR (pre++[(x,y)])=if x<y then(accR pre++byB classB x)++(⟨#[45]⟩++byB classB y)else accR pre++byB classB x:=by
   unfold accR;rw [List.foldl_append];rfl
  have HST:=zd HSTEP
  have hmix:Tryd.prog.follows .mixedOrders=true:=by kernel_rfl
  clear hj hcell HSTEP;generalize hga:accR pre=ga at*;generalize hgx:byB classB x=gx at*;generalize hgy:byB classB y=gy at*;have HGX:=zd (And.intro hga (And.intro hgx hgy));obtain⟨m0,m1⟩:=HCE.out W (Below.refl _ _)
  have hs1: ¬ 9223372036854775807<ga.size+gx.size:=by omega
  gi_wp2
  refine wpIn_mono (Q:=fun e a' w'=>e=.normal/\a'={tmps:=#[.agg #[.int .u64 (wd m 0:Nat),.int .u64 (wd m 1:Nat),.int .u64 (wd m 2:Nat),.int .u64 (wd m 3:Nat)],.pointer (some ⟨w.heap.size,0,none⟩),.string ⟨#[]⟩,.pointer (some ⟨u1.heap.size,0,none⟩),.int .u8 x,.int .u8 y,.agg #[.int .u64 (wd m 0:Nat),.int .u64 (wd m 1:Nat),.int .u64 (wd m 2:Nat),.int .u64 (wd m 3:Nat)],.int .i64 (c:Nat),.bool false,.bool false,undef,undef,undef,undef,.bool false,.bool false,.agg #[.int .u64 (wd m 0:Nat),.int .u64 (wd m 1:Nat),.int .u64 (wd m 2:Nat),.int .u64 (wd m 3:Nat)],.func (.func 92) #[] #[.pointer (some ⟨u1.heap.size+1,0,none⟩)],.int .u8 x,.int .u8 y,.string ga,.int .u8 x,.string gx,.string (ga++gx),undef,undef,undef,undef,undef,undef,undef,undef,undef,undef],defers:=[]}/\∃ u,Below W.heap.size W u/\w'=u.setCell ⟨u1.heap.size,0,none⟩ (.string (ga++gx))) ?_ ?_
  ·refine wpIn_region_any hmix ?_
   change wpAnyIn _ _ _ _ _ _ _ _ _ (World.drew _)
   refine wpAnyIn_ready (rs:=[0,1]) (by decide+kernel) (by simp) ?_;refine AllReadyIn.cons rfl (fun K hK=>?_) (AllReadyIn.cons rfl (fun K hK=>?_) AllReadyIn.nil)
   ·skip
    go_simp;refine hK _ _ ?_;clear hK K;refine wpAnyIn_ready (rs:=[1]) (by decide+kernel) (by simp) ?_;refine AllReadyIn.cons rfl (fun K hK=>?_) AllReadyIn.nil;go_simp;refine hK _ _ ?_;clear hK K;refine wpAnyIn_ready (rs:=[2]) (by decide+kernel) (by simp) ?_;refine AllReadyIn.cons rfl (fun K hK=>?_) AllReadyIn.nil;go_simp;refine⟨trivial,?_⟩;refine(CallsIn.inRound _ (callsIn_wide.2 (HB1'.out _))).mono ?_;rintro e uc ⟨rfl,hbu⟩;have huc:=((Below.refl W.heap.size W).drew).trans (hbu.mono (((Below.refl W.heap.size W).drew)).size);obtain⟨n0,n1⟩:=HCE.out uc huc;refine hK _ _ ?_;clear hK K;refine wpAnyIn_ready (rs:=[3]) (by decide+kernel) (by simp) ?_;refine AllReadyIn.cons rfl (fun K hK=>?_) AllReadyIn.nil;go_simp;refine hK _ _ ?_;clear hK K;refine wpAnyIn_ready (rs:=[4]) (by decide+kernel) (by simp) ?_;refine AllReadyIn.cons rfl (fun K hK=>?_) AllReadyIn.nil;go_simp;refine hK _ _ ?_;clear hK K;refine wpAnyIn_done ?_ ?_ _
    ·decide+kernel
    ·exact⟨rfl,rfl,uc,huc,rfl⟩
   ·skip
    go_simp;refine hK _ _ ?_;clear hK K;refine wpAnyIn_ready (rs:=[0,2]) (by decide+kernel) (by simp) ?_;refine AllReadyIn.cons rfl (fun K hK=>?_) (AllReadyIn.cons rfl (fun K hK=>?_) AllReadyIn.nil)
    ·skip
     go_simp;refine hK _ _ ?_;clear hK K;refine wpAnyIn_ready (rs:=[2]) (by decide+kernel) (by simp) ?_;refine AllReadyIn.cons rfl (fun K hK=>?_) AllReadyIn.nil;go_simp;refine⟨trivial,?_⟩;refine(CallsIn.inRound _ (callsIn_wide.2 (HB1'.out _))).mono ?_;rintro e uc ⟨rfl,hbu⟩;have huc:=((Below.refl W.heap.size W).drew).trans (hbu.mono (((Below.refl W.heap.size W).drew)).size);obtain⟨n0,n1⟩:=HCE.out uc huc;refine hK _ _ ?_;clear hK K;refine wpAnyIn_ready (rs:=[3]) (by decide+kernel) (by simp) ?_;refine AllReadyIn.cons rfl (fun K hK=>?_) AllReadyIn.nil;go_simp;refine hK _ _ ?_;clear hK K;refine wpAnyIn_ready (rs:=[4]) (by decide+kernel) (by simp) ?_;refine AllReadyIn.cons rfl (fun K hK=>?_) AllReadyIn.nil;go_simp;refine hK _ _ ?_;clear hK K;refine wpAnyIn_done ?_ ?_ _
     ·decide+kernel
     ·exact⟨rfl,rfl,uc,huc,rfl⟩
    ·skip
     go_simp;refine⟨trivial,?_⟩;refine(CallsIn.inRound _ (callsIn_wide.2 (HB1'.out _))).mono ?_;rintro e uc ⟨rfl,hbu⟩;have huc:=((Below.refl W.heap.size W).drew).trans (hbu.mono (((Below.refl W.heap.size W).drew)).size);obtain⟨n0,n1⟩:=HCE.out uc huc;refine hK _ _ ?_;clear hK K;refine wpAnyIn_ready (rs:=[0]) (by decide+kernel) (by simp) ?_;refine AllReadyIn.cons rfl (fun K hK=>?_) AllReadyIn.nil;go_simp;refine hK _ _ ?_;clear hK K;refine wpAnyIn_ready (rs:=[3]) (by decide+kernel) (by simp) ?_;refine AllReadyIn.cons rfl (fun K hK=>?_) AllReadyIn.nil;go_simp;refine hK _ _ ?_;clear hK K;refine wpAnyIn_ready (rs:=[4]) (by decide+kernel) (by simp) ?_;refine AllReadyIn.cons rfl (fun K hK=>?_) AllReadyIn.nil;go_simp;refine hK _ _ ?_;clear hK K;refine wpAnyIn_done ?_ ?_ _
     ·decide+kernel
     ·exact⟨rfl,rfl,uc,huc,rfl⟩
  ·rintro e a' w' ⟨rfl,rfl,u,hu,rfl⟩
   obtain⟨g2,hg2⟩:∃ g2,g2=ga++gx:=⟨_,rfl⟩;rw [<-hg2]
   have hg2s:g2.size<=2410:=by rw [hg2,ByteArray.size_append];omega
   have hju:=HJ.out.below hu;obtain⟨W5,hW5⟩:∃ W5,u.setCell ⟨u1.heap.size,0,none⟩ (.string g2)=W5:=⟨_,rfl⟩
   have hb5:BlkIs W5 u1.heap.size 9 #[.string g2]:=by rw [<-hW5];simpa using hju.2.2.1.put 0 (.string g2)
   have hj5:Below w.heap.size w W5/\BlkIs W5 w.heap.size 30 (set4 m).toArray/\BlkIs W5 (u1.heap.size+1) 30 (set4 m).toArray:=by
    rw [<-hW5];exact⟨hju.1.setCell (p:=⟨u1.heap.size,0,none⟩) (by have:=HB2.out.1.size;show w.heap.size<=u1.heap.size;exact this) _,hju.2.1.far (by simpa using hne) _,hju.2.2.2.far (by simp) _⟩
   have hk5:KeepsOthers W W5:=by rw [<-hW5];exact(xzam hu).trans (KeepsOthers.setCell _ _ _)
   rw [hW5];have H5:=zd (And.intro hb5 (And.intro hj5 (And.intro hk5 hg2)))
   have hcell5:∀ v,Below W5.heap.size W5 v->v.cell? ⟨u1.heap.size,0,none⟩=some (.string g2)/\v.frozen? ⟨u1.heap.size,0,none⟩=false:=fun v hv=>⟨(hb5.step hv).cell 0,(hb5.step hv).frozen 0⟩
   have HC5:=zd hcell5;obtain⟨p0,p1⟩:=hcell5 W5 (Below.refl _ _)
   have hs2: ¬ 9223372036854775807<g2.size+(gy.size+1):=by omega
   have hs5: ¬ 9223372036854775807<1+gy.size:=by omega
   have hs3: ¬ 9223372036854775807<g2.size+(1+gy.size):=by omega
   have hs4: ¬ 9223372036854775807<g2.size+(ByteArray.mk #[45]++gy).size:=by rw [ByteArray.size_append];have e:(ByteArray.mk #[45]).size=1:=rfl;omega
   clear hb5 hj5 hk5 hg2 hju hcell5 hW5 m0 m1 hu
   by_cases hlt2:x<y
   ·have e3:decide (y>x)=true:=decide_eq_true (by omega)
    gi_wp2
    refine wpIn_mono (Q:=fun e a' w'=>e=.normal/\∃ u,Below W5.heap.size W5 u/\w'=u.setCell ⟨u1.heap.size,0,none⟩ (.string (g2++(⟨#[45]⟩++gy)))) ?_ ?_
    ·refine wpIn_region_any hmix ?_
     change wpAnyIn _ _ _ _ _ _ _ _ _ (World.drew _)
     refine wpAnyIn_ready (rs:=[0,1]) (by decide+kernel) (by simp) ?_;refine AllReadyIn.cons rfl (fun K hK=>?_) (AllReadyIn.cons rfl (fun K hK=>?_) AllReadyIn.nil)
     ·skip
      go_simp;refine hK _ _ ?_;clear hK K;refine wpAnyIn_ready (rs:=[1]) (by decide+kernel) (by simp) ?_;refine AllReadyIn.cons rfl (fun K hK=>?_) AllReadyIn.nil;go_simp;refine hK _ _ ?_;clear hK K;refine wpAnyIn_ready (rs:=[2]) (by decide+kernel) (by simp) ?_;refine AllReadyIn.cons rfl (fun K hK=>?_) AllReadyIn.nil;go_simp;refine⟨trivial,?_⟩;refine(CallsIn.inRound _ (callsIn_wide.2 (HB2'.out _))).mono ?_;rintro e uc ⟨rfl,hbu⟩;have huc:=((Below.refl W5.heap.size W5).drew).trans (hbu.mono (((Below.refl W5.heap.size W5).drew)).size);obtain⟨n0,n1⟩:=HC5.out uc huc;refine hK _ _ ?_;clear hK K;refine wpAnyIn_ready (rs:=[3]) (by decide+kernel) (by simp) ?_;refine AllReadyIn.cons rfl (fun K hK=>?_) AllReadyIn.nil;go_simp;refine hK _ _ ?_;clear hK K;refine wpAnyIn_ready (rs:=[4]) (by decide+kernel) (by simp) ?_;refine AllReadyIn.cons rfl (fun K hK=>?_) AllReadyIn.nil;go_simp;refine hK _ _ ?_;clear hK K;refine wpAnyIn_ready (rs:=[5]) (by decide+kernel) (by simp) ?_;refine AllReadyIn.cons rfl (fun K hK=>?_) AllReadyIn.nil;go_simp;refine hK _ _ ?_;clear hK K;refine wpAnyIn_done ?_ ?_ _
      ·decide+kernel
      ·exact⟨rfl,uc,huc,rfl⟩
     ·skip
      go_simp;refine hK _ _ ?_;clear hK K;refine wpAnyIn_ready (rs:=[0,2]) (by decide+kernel) (by simp) ?_;refine AllReadyIn.cons rfl (fun K hK=>?_) (AllReadyIn.cons rfl (fun K hK=>?_) AllReadyIn.nil)
      ·skip
       go_simp;refine hK _ _ ?_;clear hK K;refine wpAnyIn_ready (rs:=[2]) (by decide+kernel) (by simp) ?_;refine AllReadyIn.cons rfl (fun K hK=>?_) AllReadyIn.nil;go_simp;refine⟨trivial,?_⟩;refine(CallsIn.inRound _ (callsIn_wide.2 (HB2'.out _))).mono ?_;rintro e uc ⟨rfl,hbu⟩;have huc:=((Below.refl W5.heap.size W5).drew).trans (hbu.mono (((Below.refl W5.heap.size W5).drew)).size);obtain⟨n0,n1⟩:=HC5.out uc huc;refine hK _ _ ?_;clear hK K;refine wpAnyIn_ready (rs:=[3]) (by decide+kernel) (by simp) ?_;refine AllReadyIn.cons rfl (fun K hK=>?_) AllReadyIn.nil;go_simp;refine hK _ _ ?_;clear hK K;refine wpAnyIn_ready (rs:=[4]) (by decide+kernel) (by simp) ?_;refine AllReadyIn.cons rfl (fun K hK=>?_) AllReadyIn.nil;go_simp;refine hK _ _ ?_;clear hK K;refine wpAnyIn_ready (rs:=[5]) (by decide+kernel) (by simp) ?_;refine AllReadyIn.cons rfl (fun K hK=>?_) AllReadyIn.nil;go_simp;refine hK _ _ ?_;clear hK K;refine wpAnyIn_done ?_ ?_ _
       ·decide+kernel
       ·exact⟨rfl,uc,huc,rfl⟩
      ·skip
       go_simp;refine⟨trivial,?_⟩;refine(CallsIn.inRound _ (callsIn_wide.2 (HB2'.out _))).mono ?_;rintro e uc ⟨rfl,hbu⟩;have huc:=((Below.refl W5.heap.size W5).drew).trans (hbu.mono (((Below.refl W5.heap.size W5).drew)).size);obtain⟨n0,n1⟩:=HC5.out uc huc;refine hK _ _ ?_;clear hK K;refine wpAnyIn_ready (rs:=[0,3]) (by decide+kernel) (by simp) ?_;refine AllReadyIn.cons rfl (fun K hK=>?_) (AllReadyIn.cons rfl (fun K hK=>?_) AllReadyIn.nil)
       ·skip
        go_simp;refine hK _ _ ?_;clear hK K;refine wpAnyIn_ready (rs:=[3]) (by decide+kernel) (by simp) ?_;refine AllReadyIn.cons rfl (fun K hK=>?_) AllReadyIn.nil;go_simp;refine hK _ _ ?_;clear hK K;refine wpAnyIn_ready (rs:=[4]) (by decide+kernel) (by simp) ?_;refine AllReadyIn.cons rfl (fun K hK=>?_) AllReadyIn.nil;go_simp;refine hK _ _ ?_;clear hK K;refine wpAnyIn_ready (rs:=[5]) (by decide+kernel) (by simp) ?_;refine AllReadyIn.cons rfl (fun K hK=>?_) AllReadyIn.nil;go_simp;refine hK _ _ ?_;clear hK K;refine wpAnyIn_done ?_ ?_ _
        ·decide+kernel
        ·exact⟨rfl,uc,huc,rfl⟩
       ·skip
        go_simp;refine hK _ _ ?_;clear hK K;refine wpAnyIn_ready (rs:=[0]) (by decide+kernel) (by simp) ?_;refine AllReadyIn.cons rfl (fun K hK=>?_) AllReadyIn.nil;go_simp;refine hK _ _ ?_;clear hK K;refine wpAnyIn_ready (rs:=[4]) (by decide+kernel) (by simp) ?_;refine AllReadyIn.cons rfl (fun K hK=>?_) AllReadyIn.nil;go_simp;refine hK _ _ ?_;clear hK K;refine wpAnyIn_ready (rs:=[5]) (by decide+kernel) (by simp) ?_;refine AllReadyIn.cons rfl (fun K hK=>?_) AllReadyIn.nil;go_simp;refine hK _ _ ?_;clear hK K;refine wpAnyIn_done ?_ ?_ _
        ·decide+kernel
        ·exact⟨rfl,uc,huc,rfl⟩
    ·rintro e a' w' ⟨rfl,v,hv,rfl⟩
     have hst:=HST.out;rw [if_pos hlt2,<-H5.out.2.2.2]at hst;have h1:=H5.out.1.step hv;refine⟨(H5.out.2.2.1.trans ((xzam hv).trans (KeepsOthers.setCell _ _ _))).from _,trivial,(H5.out.2.1.1.trans (hv.mono H5.out.2.1.1.size)).setCell (p:=⟨u1.heap.size,0,none⟩) (by have:=HB2.out.1.size;show w.heap.size<=u1.heap.size;exact this) _,(H5.out.2.1.2.1.step hv).far (by simpa using hne) _,?_,(H5.out.2.1.2.2.step hv).far (by simp) _⟩
     show BlkIs _ u1.heap.size 9 #[.string (accR (pre++[(x,y)]))]
     rw [hst]
     simpa using h1.put 0 (.string (g2++(⟨#[45]⟩++gy)))
   ·have e3:decide (y>x)=false:=decide_eq_false (by omega)
    gi_wp2
    have hst:=HST.out;rw [if_neg (by omega),<-H5.out.2.2.2]at hst;refine⟨(H5.out.2.2.1).from _,trivial,H5.out.2.1.1,H5.out.2.1.2.1,?_,H5.out.2.1.2.2⟩
    show BlkIs W5 u1.heap.size 9 #[.string (accR (pre++[(x,y)]))]
    rw [hst];exact H5.out.1
end
section
open Go.RowKit
def textOf (T:Tree):ByteArray:=T.text setB
def printed (T:Tree):Value:=if T.mayN then(if(textOf T).size>400 then .tuple #[.string ⟨#[]⟩,.int .i64 4]else .tuple #[.string (textOf T),.int .i64 0])else .tuple #[.string ⟨#[]⟩,.int .i64 1]
set_option maxRecDepth 20000 in
set_option maxHeartbeats 8000000 in
theorem xzji (T:Tree)(v:Value)(w:World)(hat:T.At w v)(hn:T.nodes<=1048576)(hT:Tab w):Calls Tryd.prog 43 #[v] w fun e w'=>e=.returned (printed T)/\Below w.heap.size w w':=by
 obtain⟨A,n,c,rfl⟩:=hat.form;have hb1:Below w.heap.size w (w.alloc (.cells (reL T.kind T.set A n c T.lo T.hi).toArray 34)):=(Below.refl _ _).alloc (Nat.le_refl _) _;have hbx:=BlkIs.new w 34 (reL T.kind T.set A n c T.lo T.hi).toArray;have HB1:=zd hb1;have HBX:=zd hbx;have HM:=zd (xzhd T _ (w.alloc (.cells (reL T.kind T.set A n c T.lo T.hi).toArray 34)) (hat.step hb1) (Nat.le_trans (xzdm T) (by omega)));have HW:=zd (fun(h:T.mayN=true) (u:World) (hu:Below w.heap.size w u)=>xzfx setB xzfd w (fun m u hu=>xzfy m u (hT.step hu)) T _ u hu (hat.step hu) (xzkg h).1 hn)
 have hsz:T.mayN=true->(textOf T).size<=4294967296:=fun h=>by
  have:=xzcy setB xzfd T (xzkg h).1;unfold textOf;omega
 have HSZ:=zd hsz;obtain⟨k0,k1,k2,k3,k4,k5,k6,k7⟩:=hbx.eight;obtain⟨R,hR⟩:∃ R,R=printed T:=⟨_,rfl⟩;rw [<-hR];unfold printed at hR;have HRR:=zd hR;clear hb1 hbx hat hT hsz hR;unfold WrittenIs at HW
 change Hid (∀ (h:T.mayN=true) (u:World) (hu:Below w.heap.size w u),Calls Tryd.prog 54 #[reV T.kind T.set A n c T.lo T.hi] u fun e w'=>e=.returned (.string (textOf T))/\Below u.heap.size u w')at HW
 unfold reV reL at*;generalize textOf T=z at*
 cases hm:T.mayN with
 |false=>
  rw [hm]at HM;have hr:=HRR.out;rw [hm,if_neg (by simp)]at hr;have HRE:=zd hr;clear hr
  go_enter Tryd.func43,Tryd.ntmps43
  go_wp2_with fail
  go_at_call 37
  refine HM.out.mono ?_;rintro e u1 ⟨rfl,hb2⟩;have HB2:=zd (HB1.out.trans (hb2.mono HB1.out.size));clear hb2 k0 k1 k2 k3 k4 k5 k6 k7;go_wp2;refine bodyPost_ret (results_tmp2 rfl _ _ _) rfl ⟨?_,HB2.out⟩;exact congrArg Ending.returned HRE.out.symm
 |true=>
  rw [hm]at HM;have hr:=HRR.out;rw [hm,if_pos rfl]at hr;have HRE:=zd hr;have HWW:=zd (HW.out hm);have hzs:=HSZ.out hm;clear hr
  go_enter Tryd.func43,Tryd.ntmps43
  go_wp2_with fail
  go_at_call 37
  refine HM.out.mono ?_;rintro e u1 ⟨rfl,hb2⟩;have HB2:=zd (HB1.out.trans (hb2.mono HB1.out.size));clear k0 k1 k2 k3 k4 k5 k6 k7;obtain⟨k0,k1,k2,k3,k4,k5,k6,k7⟩:=(HBX.out.step hb2).eight;clear hb2
  go_wp2_with fail
  go_at_call 54
  refine(HWW.out u1 HB2.out).mono ?_;rintro e u2 ⟨rfl,hb3⟩;have HB3:=zd (HB2.out.trans (hb3.mono HB2.out.size));clear hb3
  by_cases hgt:z.size>400
  ·have e1:decide ((z.size:Int)>400)=true:=decide_eq_true (by omega)
   have hr:=HRE.out;rw [if_pos hgt]at hr;have HRF:=zd hr;clear hr;go_wp2;refine bodyPost_ret (results_tmp2 rfl _ _ _) rfl ⟨?_,HB3.out⟩;exact congrArg Ending.returned HRF.out.symm
  ·have e1:decide ((z.size:Int)>400)=false:=decide_eq_false (by omega)
   have hr:=HRE.out;rw [if_neg hgt]at hr;have HRF:=zd hr;clear hr;go_wp2;refine bodyPost_ret (results_tmp2 rfl _ _ _) rfl ⟨?_,HB3.out⟩;exact congrArg Ending.returned HRF.out.symm
end
section
open Go.Shelf Go.RowKit
theorem xzht (xs:List ByteArray):(wordsL xs).length<=lenW xs:=by
 have:=xzcb xs xs.length (Nat.le_refl _)
 rwa [List.take_length]at this
set_option maxRecDepth 100000 in
set_option maxHeartbeats 4000000 in
theorem xzhu (xs:List ByteArray)(bk o c B b:Nat)(L:List UInt8)(many:Bool)(w:World)(h:IsWr B b (Lib.byteCells L) many w)(hcells:∀ (j:Nat) (h:j<xs.length),w.cell? ⟨bk,o+j,none⟩=some (.string xs[j]))(hbk:bk<w.heap.size)
 (hn:xs.length<=1048576)(hl:L.length+lenW xs<=1099511627776)(hB:B<=w.heap.size):
 Calls Tryd.prog 29 #[.pointer (some ⟨b,0,none⟩),.slice (some ⟨bk,o,none⟩) xs.length c] w fun e w'=>e=.returned (.tuple #[])/\(IsWr B b (Lib.byteCells (L++wordsL xs++[10])) many w'/\Below B w w'/\KeepT w w'):=by
 have hwl:=xzht xs;have HW:=zd (xziy xs bk o c w.drew hcells hbk hn (by omega));have HS:=zd (fun(u:World) (hu:Below w.heap.size w u)=>wr_str B b (Lib.byteCells L) many ⟨(wordsL xs).toArray⟩ u (h.step hu) (by rw [Lib.byteCells_length];show L.length+(wordsL xs).toArray.size<=_;simp;omega) (by have:=hu.size;omega));have HB:=zd (fun(u:World) (hu:IsWr B b (Lib.byteCells (L++wordsL xs)) many u) (hb:B<=u.heap.size)=>wr_byte B b _ many 10 u hu (by rw [Lib.byteCells_length];simp;omega) hb);have HBB:=zd hB;clear h hcells hbk hl hwl hB
 go_enter Tryd.func29,Tryd.ntmps29
 go_wp2_with fail
 go_region_held3 (fun _=>True)
  ((first
    |trivial
    |go_keep))
  ((first
    |(go_at_call 42;go_must(refine HW.out.mono ?_);rintro e w3 ⟨rfl,hb3⟩;have hb4:Below w.heap.size w w3:=(Below.refl _ _).drew.trans hb3)
    |(go_at_call 11;go_must(refine(HS.out _ hb4).mono ?_);rintro e w5 ⟨rfl,hw5,hb5,hk5⟩)))
 have hw6:IsWr B b (Lib.byteCells (L++wordsL xs)) many w5:=by
  unfold Lib.byteCells at hw5 ⊢;rw [List.map_append];exact .inr hw5
 have HU:=zd (show Below B w w5/\KeepT w w5 from⟨(hb4.mono HBB.out).trans hb5,(KeepT.of hb4).trans hk5⟩);have HC:=zd (HB.out w5 hw6 (by have:=HU.out.1.size;have:=HBB.out;omega));clear hb3 hb4 hw5 hb5 hw6 hk5
 go_wp2_with fail
 go_at_call 10
 refine HC.out.mono ?_;rintro e w7 ⟨rfl,hw7,hb7,hk7⟩
 have HF:=zd (show IsWr B b (Lib.byteCells (L++wordsL xs++[10])) many w7/\Below B w w7/\KeepT w w7 from⟨by
  unfold Lib.byteCells at hw7 ⊢;rw [List.map_append]
  exact .inr hw7,HU.out.1.trans hb7,HU.out.2.trans hk7⟩)
 clear hw7 hb7 hk7;go_wp2
 go_end0
 exact⟨rfl,HF.out⟩
set_option maxRecDepth 100000 in
theorem xzfz (x:Bool)(w:World):Calls Tryd.prog 32 #[.bool x] w fun e w'=>e=.returned (.string (if x then⟨#[101,110,100]⟩else⟨#[]⟩))/\w'=w:=by
 cases x
 ·go_enter Tryd.func32,Tryd.ntmps32
  go_wp2;go_ret;exact⟨rfl,rfl⟩
 ·go_enter Tryd.func32,Tryd.ntmps32
  go_wp2;go_ret;exact⟨rfl,rfl⟩
set_option maxRecDepth 100000 in
theorem xzdv (a b c:Int)(own:Bool)(s:ByteArray)(w:World):Calls Tryd.prog 34 #[.agg #[.int .i64 0,.int .i64 a,.int .i64 b,.int .i64 c,.bool own,.string s]] w fun e w'=>e=.returned (.string ⟨#[]⟩)/\Below w.heap.size w w':=by
 have hb:Below w.heap.size w (w.alloc (.cells #[.int .i64 0,.int .i64 a,.int .i64 b,.int .i64 c,.bool own,.string s] 38)):=(Below.refl _ _).alloc (Nat.le_refl _) _;have HB:=zd hb;clear hb
 go_enter Tryd.func34,Tryd.ntmps34
 go_wp2;go_ret;exact⟨rfl,HB.out⟩
end
section
open Go.Shelf Go.RowKit
theorem IsWr.cell2 {B b:Nat}{bs:List Value}{many:Bool}{w:World}(h:IsWr B b bs many w):w.cell? ⟨b,2,none⟩=some (.bool many):=by
 obtain⟨p,hB,v,hbk,hown,hne⟩:=h.at
 simpa using hbk.cell 2
def slashed (s:ByteArray):ByteArray:=⟨#[47]⟩++s++⟨#[47]⟩
set_option maxRecDepth 100000 in
set_option maxHeartbeats 2000000 in
theorem tree_ok (B b:Nat)(bs:List Value)(T:Tree)(A:Option Addr)(n c:Nat)(w:World)(h:IsWr B b bs false w)(hat:T.At w (reV T.kind T.set A n c T.lo T.hi))(hk:T.kind≠0)(hn:T.nodes<=1048576)(hm:T.mayN=true)(ht:(textOf T).size<=400)(hT:Tab w):
 Calls Tryd.prog 30 #[.pointer (some ⟨b,0,none⟩),reV T.kind T.set A n c T.lo T.hi] w fun e w'=>e=.returned (.string (slashed (textOf T)))/\Below w.heap.size w w':=by
 have hb:Below w.heap.size w (w.alloc (.cells (reL T.kind T.set A n c T.lo T.hi).toArray 34)):=(Below.refl _ _).alloc (Nat.le_refl _) _;have hx:=BlkIs.new w 34 (reL T.kind T.set A n c T.lo T.hi).toArray;have h2:=(h.step hb).cell2;have HB:=zd hb;have hp:=xzji T _ _ (hat.step hb) hn (hT.step hb)
 have ep:printed T=.tuple #[.string (textOf T),.int .i64 0]:=by
  unfold printed;rw [if_pos hm,if_neg (by omega)]
 rw [ep]at hp;have HP:=zd hp
 have hk2:(T.kind==0)=false:=by simpa using hk
 have hsz:(textOf T).size<=400:=ht;clear hb h hat hm hn hT hp ep hk ht;unfold reV reL at*;obtain⟨d0,d1,d2,d3,d4,d5,d6,d7⟩:=hx.eight;clear hx;unfold slashed;generalize textOf T=s at*;generalize T.kind=kk at*;generalize T.set=mm at*;generalize T.lo=ll at*;generalize T.hi=hh at*
 go_enter Tryd.func30,Tryd.ntmps30
 go_wp2_with fail
 go_at_call 43
 refine HP.out.mono ?_;rintro e w2 ⟨rfl,hb2⟩;have HU:=zd (HB.out.trans (hb2.mono HB.out.size));clear hb2 d0 d1 d2 d3 d4 d5 d6 d7 h2;go_wp2;go_ret;exact⟨rfl,HU.out⟩
set_option maxRecDepth 100000 in
set_option maxHeartbeats 2000000 in
theorem xzga (b:Nat)(cs:Array Value)(h9:cs[9]? =some (.int .i64 0))(w:World):Calls Tryd.prog 33 #[.pointer (some ⟨b,0,none⟩),.agg cs] w fun e w'=>e=.returned (.string ⟨#[]⟩)/\Below w.heap.size w w':=by
 have HB:=zd (show Below w.heap.size w (w.alloc (.cells cs 40))from(Below.refl _ _).alloc (Nat.le_refl _) _);have c9:=((BlkIs.new w 40 cs).cell 9).trans h9;clear h9
 go_enter Tryd.func33,Tryd.ntmps33
 go_wp2;go_ret;exact⟨rfl,HB.out⟩
end
end Go.Proofs.YtgjfhbpmahgfcaaDoor
