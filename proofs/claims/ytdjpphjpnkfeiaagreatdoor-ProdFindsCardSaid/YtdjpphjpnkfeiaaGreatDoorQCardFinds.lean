/-
 THE CARD OF hacklelaw12.ProdFinds: for any two automata ProdFinds answers true and leaves its arguments as they were. Condition: math/bits' table lies as its text lays it (the card ties it).
-/
import Derived.Test.YtdjpphjpnkfeiaaGreatDoorQG03
import Derived.Test.YtdjpphjpnkfeiaaGreatDoorQG14
import Derived.Test.YtdjpphjpnkfeiaaGreatDoorQG43
namespace Go.Proofs.YtdjpphjpnkfeiaaGreatDoor.prodFinds
open Go.ChangeShapes Go.WideShapes Go.ChangeAt Go.RowKit
set_option maxRecDepth 100000 in
theorem contract (H:Type)(enc:TypeId×Value->H)(W:World)(base:Nat)(args:Array Value)(ds gs:List (DataW H))(before:List MemPlace)
 (hval:∀ (j:Nat) t v,Tryz.f4.params[j]? =some t->args[j]? =some v->Value.okWide Tryz.prog W .any base t v)
 (hW:DataW.Whole enc Tryz.prog Tryz.f4.params.toList Rows.prodFindsSpec.vars false W args.toList ds gs before)(hL:laidMetH Tryz.prog Rows.prodFindsRow.laid W):
 Calls Tryz.prog 4 args W fun e W'=>∃ v,e=.returned v/\Rows.prodFindsSpec.post enc Tryz.prog Tryz.f4 false true false false W args v W':=by
 have hW':=hW;obtain⟨p,q,hA0,hV,rfl,hfz,hnd⟩:=hW;have hA:DataW.TrodAll enc Tryz.prog W 0 (fun _=>true) true Tryz.f4.params.toList args.toList ds p:=hA0;rw [Tryz.params4]at hA hval;obtain⟨v0,vs0,d0,ds0,p0,q0,hargs,rfl,rfl,h0,r0⟩:=trodAll_cons hA;obtain⟨v1,vs1,d1,ds1,p1,q1,rfl,rfl,rfl,h1,r1⟩:=trodAll_cons r0;obtain⟨rfl,rfl,rfl⟩:=trodAll_nil r1
 obtain rfl:args=#[v0,v1]:=by cases args;simp_all
 obtain⟨rfl,rfl⟩:=trodVars_none hV;obtain⟨D,hof,hD⟩:=arg_df (hval 0 28 v0 rfl rfl) h0;obtain⟨E,hoe,hE⟩:=arg_df (hval 1 28 v1 rfl rfl) h1;clear hA0
 refine(xzmz D E _ _ W hD hE hof hoe (tab_of hL)).mono fun e W' ⟨he,hb⟩=>⟨_,he,?_⟩
 exact yzdj laidOutYes (by rw [Tryz.params4];intro t ht;simp at ht;rcases ht with rfl|rfl<;>exact⟨by kernel_rfl,of_decide_eq_true (by kernel_rfl)⟩)
  (by kernel_rfl) Tryz.underlying4 rfl hW' rfl hb
def argsW:Array Value:=#[.agg df0,.agg df0]
def dsW {H:Type}:List (DataW H):=[.agg [.agg [.agg (List.replicate 256 (.lit (.int .u8 0))),.lit (.int .i64 0)],.nil,.nil],.agg [.agg [.agg (List.replicate 256 (.lit (.int .u8 0))),.lit (.int .i64 0)],.nil,.nil]]
theorem laid_met (os:Os):laidMet Tryz.prog Rows.prodFindsRow.laid ((laidWorld os).forCall (fun _ _=>0) ⟨#[],argsW,[]⟩).memory:=
 laidMet_of_run' 8 (by kernel_rfl) (by kernel_rfl)
theorem reads (os:Os){H:Type}(enc:TypeId×Value->H):∃ places,DataW.whole enc Tryz.prog ((laidWorld os).forCall (fun _ _=>0) ⟨#[],argsW,[]⟩).memory Tryz.f4.params.toList Rows.prodFindsSpec.vars false argsW.toList 8=some (dsW,[],places):=
 ⟨[],by kernel_rfl⟩
set_option maxRecDepth 100000 in
theorem lifted (os:Os)(started:os.Started)(H:Type)(enc:TypeId×Value->H)(F:Stop.Interp):
 ReturnsInHanded {} Tryz.checked os 4 .any ((OpenSpec.ofChange Rows.prodFindsSpec).preRow enc Tryz.prog Tryz.f4 Rows.prodFindsRow.domain false Rows.prodFindsRow.laid) (((OpenSpec.ofChange Rows.prodFindsSpec).at F).post enc Tryz.prog Tryz.f4 false true false false):=by
 obtain⟨places,hx⟩:=reads os enc
 refine returnsInHanded_of_row (C:=Tryz.checked) (s:=OpenSpec.ofChange Rows.prodFindsSpec) ownKnobNone started (by kernel_rfl) Tryz.func4
  (witness_row_at (enc:=enc) (C:=Tryz.checked) false (laidWorld os) argsW rfl (by kernel_rfl) (by kernel_rfl) (by kernel_rfl)
   (OpenSpec.preRow_of_cond 8 hx (by kernel_rfl) (fun k hk=>by cases hk) (by kernel_rfl) (laid_met os))) ?_
 intro W base args ds gs before hval hW _ _ _ hL _ _;exact contract H enc W base args ds gs before hval hW hL
theorem said:Rows.ProdFindsSaid:=
 OpenClaim.holds_of_cond 4 Tryz.f4 rfl rfl rfl rfl rfl rfl rfl ⟨rfl,rfl,rfl,rfl,rfl⟩ rfl rfl rfl rfl rfl (by kernel_rfl) Tryz.func4 (by kernel_rfl)
  (of_decide_eq_true (by kernel_rfl)) (by unfold Func.isWrapper;first|(rw [if_pos (by decide+kernel)];kernel_rfl)|(rw [if_neg (by decide+kernel)];exact⟨rfl,rfl⟩))
  (fun os started H enc _ F=>by rw [OpenClaim.pre_eq_preRow];exact lifted os started H enc F)
theorem plain (f:FuncId)(fn:Func)(hf:Tryz.pinned.checked.prog.funcNamed "hackle/hacklelaw12.ProdFinds" =some f)(hfn:Tryz.pinned.checked.prog.funcs[f]? =some fn):
 false=Tryz.pinned.checked.prog.looks []/\∀ (j:Nat) t,fn.params[j]? =some t->Tryz.pinned.checked.prog.wantsStandIn t=false:=by
 obtain rfl:f=4:=Option.some.inj ((show Tryz.prog.funcNamed "hackle/hacklelaw12.ProdFinds" =some 4 by kernel_rfl).symm.trans hf) |>.symm;obtain rfl:fn=Tryz.f4:=(Option.some.inj (Tryz.func4.symm.trans hfn)).symm;refine⟨by kernel_rfl,fun j t ht=>?_⟩;rw [Tryz.params4]at ht;have:=Array.mem_of_getElem? ht
 simp at this
 subst this;exact(show Tryz.prog.wantsStandIn 28=false by kernel_rfl)
theorem card:Rows.ProdFindsCardSaid:=
 Claim7.holds_tied_plain_at .later [] _ _ _ _ said (fun _ h=>by cases h) (by kernel_rfl) (fun _ h=>by cases h) prodFinds_row_tie rfl ⟨rfl,rfl⟩ (by kernel_rfl) rfl plain (by kernel_rfl)
end Go.Proofs.YtdjpphjpnkfeiaaGreatDoor.prodFinds
