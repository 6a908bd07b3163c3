/-
 AN AUTOMATON THAT IS TRIMMED, AS IT GROWS: what lies where, what abides where one row is written. No condition.
-/
import Derived.Test.YtdjpphjpnkfeiaaGreatDoorQG29
namespace Go.Proofs.YtdjpphjpnkfeiaaGreatDoor
open Go.RowKit
structure TrD where
 R:List (List Int)
 hn:List Value
 T:List Int
structure TrV where
 vn:Value
 vt:Value
structure TrX (h:Nat->Prop)(w0:World)(g:Nat)(f:Nat->Nat)(n:Int)(ρ:Nat->Nat)(S:TrD)(V:TrV)(W:World):Prop where
 below:Below w0.heap.size w0 W
 lo:w0.heap.size<=g
 blk: ¬ h 1->BlkIs W g 35 (dfC f n V.vn V.vt)
 t: ¬ h 3->RowI w0.heap.size W V.vt S.T
 n: ¬ h 4->W.ownsRow w0.heap.size 26 1 V.vn S.R.length S.hn
 rn:Rows0 ρ W S.R S.hn
 r0:ρ g=1
 old:∀ k,k<w0.heap.size->ρ k=9
 ro:(∀ k,V.vt.ownBlock=some k->ρ k=3)/\(∀ k,V.vn.ownBlock=some k->ρ k=4)
abbrev TrS:=TrX fun _=>False
section
variable {h h' : Nat → Prop} {w0 : World} {g : Nat} {f : Nat → Nat} {n : Int} {ρ : Nat → Nat} {S : TrD} {V : TrV} {W W' : World}
theorem TrX.size (H:TrX h w0 g f n ρ S V W):w0.heap.size<=W.heap.size:=H.below.size
theorem TrX.tn (H:TrX h w0 g f n ρ S V W)(hh:∀ q,h q->h' q)(h0: ¬ h' 0){o:Option Nat}(ht:Tn o W W')(ho:∀ k,o=some k->w0.heap.size<=k/\(h' (ρ k)\/W.heap.size<=k)):TrX h' w0 g f n ρ S V W':=by
 have hB:=H.size
 have key:∀ k q,k<W.heap.size->ρ k=q-> ¬ h' q->W'.heap[k]? =W.heap[k]? :=fun k q hk hq hr=>ht.2.1 k hk (fun e=>by
  rcases(ho k e).2 with h1|h1
  ·rw [hq]at h1;exact hr h1
  ·omega)
 have up:∀ q,¬ h' q-> ¬ h q:=fun q h1 h2=>h1 (hh q h2)
 refine⟨ht.2.2 _ _ hB (fun k hk=>(ho k hk).1) H.below,H.lo,fun hr=>?_,fun hr=>?_,fun hr=>?_,?_,H.r0,H.old,H.ro⟩
 ·exact(key _ _ (BlkIs.lt (H.blk (up _ hr))) H.r0 hr).trans (H.blk (up _ hr))
 ·exact xzbd (H.t (up _ hr)) fun k hk=>key k _ (World.ownsRow.lt (H.t (up _ hr)) k hk).2 (H.ro.1 k hk) hr
 ·exact xzau (H.n (up _ hr)) fun k hk=>key k _ (World.ownsRow.lt (H.n (up _ hr)) k hk).2 (H.ro.2 k hk) hr
 ·exact H.rn.keep ht.1 fun b hb hb0=>key b 0 hb hb0 h0
theorem TrX.step (H:TrS w0 g f n ρ S V W)(hb:Below W.heap.size W W'):TrS w0 g f n ρ S V W':=TrX.tn (o:=none) H (fun _ h=>h) (fun h=>h) (Tn.below hb) (fun k e=>by cases e)
theorem TrX.role (H:TrS w0 g f n ρ S V W)(o:Option Nat)(q:Nat)(ho:∀ k,o=some k->ρ k=q\/W.heap.size<=k):TrS w0 g f n (fun k=>if o=some k then q else ρ k) S V W:=by
 have key:∀ k q',k<W.heap.size->ρ k=q'->(if o=some k then q else ρ k)=q':=fun k q' hk hq'=>by
  by_cases e:o=some k
  ·rw [if_pos e]
   rcases ho k e with h1|h1
   ·exact h1.symm.trans hq'
   ·omega
  ·rw [if_neg e];exact hq'
 have F: ¬ False:=fun h=>h
 exact⟨H.below,H.lo,H.blk,H.t,H.n,H.rn.role fun b hb h0=>key b 0 hb h0,key _ _ (BlkIs.lt (H.blk F)) H.r0,fun k hk=>key _ _ (Nat.lt_of_lt_of_le hk H.size) (H.old k hk),
  ⟨fun k hk=>key _ _ (World.ownsRow.lt (H.t F) k hk).2 (H.ro.1 k hk),fun k hk=>key _ _ (World.ownsRow.lt (H.n F) k hk).2 (H.ro.2 k hk)⟩⟩
theorem TrX.pushT (H:TrS w0 g f n ρ S V W){v':Value}{x:Int}(ht:Tn V.vt.ownBlock W W')(hv:RowI w0.heap.size W' v' (S.T++[x]))(hb:v'.ownBlock=V.vt.ownBlock\/ ∃ b,v'.ownBlock=some b/\W.heap.size<=b):
 (∃ ρ',TrS w0 g f n ρ' {S with T:=S.T++[x]} {V with vt:=v'} (W'.setCell ⟨g,258,none⟩ v'))/\(∃ y,W'.cell? ⟨g,258,none⟩=some y)/\W'.frozen? ⟨g,258,none⟩=false:=by
 have F: ¬ False:=fun h=>h
 have r5:=H.role v'.ownBlock 3 (fun k hk=>by
  rcases hb with e|⟨b,e1,e2⟩
  ·exact .inl (H.ro.1 k (e▸hk))
  ·rw [e1]at hk;injection hk with hk;exact .inr (by omega))
 have t5:=r5.tn (h':=fun k=>k=3) (fun _ h=>h.elim) (by decide) ht (fun k hk=>⟨(World.ownsRow.lt (r5.t F) k hk).1,.inl (r5.ro.1 k hk)⟩);have bk:=t5.blk (by decide)
 have t6:=t5.tn (h':=fun k=>k=3\/k=1) (fun _ h=>.inl h) (by decide) (Tn.wrote (Wrote.cell W' g 258 v')) (fun k hk=>by
  obtain rfl:g=k:=Option.some.inj hk
  exact⟨H.lo,.inl (.inr t5.r0)⟩)
 refine⟨⟨_,t6.below,t6.lo,fun _=>blk_dt bk v',fun _=>?_,fun _=>t6.n (by decide),t6.rn,t6.r0,t6.old,⟨fun k hk=>if_pos hk,t6.ro.2⟩⟩,⟨_,(DfB.of bk) 258 (by decide)⟩,BlkIs.frozen bk 258⟩
 exact xzbd hv fun k hk=>Below.heap_setCell W' ⟨g,258,none⟩ v' k (fun e=>by
  have h1:(if v'.ownBlock=some k then 3 else ρ k)=3:=if_pos hk;have h2:=t5.r0;rw [show k=g from e]at h1
  rw [h1]at h2;cases h2)
theorem TrX.pushN (H:TrS w0 g f n ρ S V W){v':Value}{r:List Int}{b:Nat}{vr:Value}(ht:Tn V.vn.ownBlock W W')(hv:W'.ownsRow w0.heap.size 26 1 v' (S.R.length+1) (S.hn++[vr]))(hb:v'.ownBlock=V.vn.ownBlock\/ ∃ b,v'.ownBlock=some b/\W.heap.size<=b)
 (h1:vr.oneCell'=true)(h2:IntsV W' r vr)(h3:vr.ownBlock=some b)(h4:W.heap.size<=b)(h5:b<W'.heap.size)(h6:v'.ownBlock≠some b):
 (∃ ρ',TrS w0 g f n ρ' {S with R:=S.R++[r],hn:=S.hn++[vr]} {V with vn:=v'} (W'.setCell ⟨g,257,none⟩ v'))/\(∃ y,W'.cell? ⟨g,257,none⟩=some y)/\W'.frozen? ⟨g,257,none⟩=false:=by
 have F: ¬ False:=fun h=>h
 have r4:=H.role (some b) 0 (fun k hk=>.inr (by injection hk with hk;omega))
 have r5:=r4.role v'.ownBlock 4 (fun k hk=>by
  rcases hb with e|⟨b',e1,e2⟩
  ·exact .inl (r4.ro.2 k (e▸hk))
  ·rw [e1]at hk;injection hk with hk;exact .inr (by omega))
 have t5:=r5.tn (h':=fun k=>k=4) (fun _ h=>h.elim) (by decide) ht (fun k hk=>⟨(World.ownsRow.lt (r5.n F) k hk).1,.inl (r5.ro.2 k hk)⟩);have bk:=t5.blk (by decide);have gb:g<W.heap.size:=BlkIs.lt (H.blk F)
 have rb:∀ b',vr.ownBlock=some b'->(if v'.ownBlock=some b' then 4 else if some b=some b' then 0 else ρ b')=0/\b'<W'.heap.size:=fun b' hb'=>by
  obtain rfl:b=b':=by rw [h3]at hb';injection hb'
  rw [if_neg h6,if_pos rfl];exact⟨rfl,h5⟩
 have rn:=t5.rn.push h1 h2 (fun b' hb' _=>rb b' hb');have t5':TrX (fun k=>k=4) w0 g f n _ ⟨S.R++[r],S.hn++[vr],S.T⟩ ⟨V.vn,V.vt⟩ W':=⟨t5.below,t5.lo,t5.blk,t5.t,fun h=>absurd rfl h,rn,t5.r0,t5.old,t5.ro⟩
 have t6:=t5'.tn (h':=fun k=>k=4\/k=1) (fun _ h=>.inl h) (by decide) (Tn.wrote (Wrote.cell W' g 257 v')) (fun k hk=>by
  obtain rfl:g=k:=Option.some.inj hk
  exact⟨H.lo,.inl (.inr t5.r0)⟩)
 refine⟨⟨_,t6.below,t6.lo,fun _=>blk_dx bk v',fun _=>t6.t (by decide),fun _=>?_,t6.rn,t6.r0,t6.old,⟨t6.ro.1,fun k hk=>if_pos hk⟩⟩,⟨_,(DfB.of bk) 257 (by decide)⟩,BlkIs.frozen bk 257⟩
 show(W'.setCell ⟨g,257,none⟩ v').ownsRow w0.heap.size 26 1 v' (S.R++[r]).length (S.hn++[vr])
 rw [List.length_append]
 exact xzau hv fun k hk=>Below.heap_setCell W' ⟨g,257,none⟩ v' k (fun e=>by
  have h1:(if v'.ownBlock=some k then 4 else if some b=some k then 0 else ρ k)=4:=if_pos hk;have h2:=t5.r0;rw [show k=g from e]at h1
  rw [h1]at h2;cases h2)
theorem TrX.at (H:TrS w0 g f n ρ S V W):DfAt W ⟨f,n,S.R,S.T⟩ (.agg (dfC f n V.vn V.vt)):=
 ⟨V.vn,V.vt,rfl,xzwg (H.n fun h=>h) H.rn,(H.t fun h=>h).ints⟩
theorem TrX.wrote (H:TrS w0 g f n ρ S V W)(hz:W.heap.size<=W'.heap.size)(hb:∀ b,w0.heap.size<=b->W'.heap[b]? =W.heap[b]?):DfAt W' ⟨f,n,S.R,S.T⟩ (.agg (dfC f n V.vn V.vt)):=by
 have F: ¬ False:=fun h=>h
 refine⟨V.vn,V.vt,rfl,xzwg (xzau (H.n F) fun b hb'=>hb b (World.ownsRow.lt (H.n F) b hb').1) (H.rn.keep hz fun b _ hb0=>hb b ?_),RowI.ints (xzbd (H.t F) fun b hb'=>hb b (World.ownsRow.lt (H.t F) b hb').1)⟩
 rcases Nat.lt_or_ge b w0.heap.size with h1|h1
 ·have:=H.old b h1;omega
 ·exact h1
end
def numF (K:List Int)(i:Nat):Value:=.int .i64 (numL K i)
theorem yzbf {W:World}{g:Nat}{t:TypeId}{n:Nat}(h:BlkF W g t n (noneF n)):BlkF W g t n (numF []):=by
 have e:cellsN n (noneF n)=cellsN n (numF []):=xzap fun i hi=>by
  unfold noneF numF numL;rw [if_pos hi,if_neg (by simp)]
 unfold BlkF at h ⊢;rw [<-e];exact h
theorem yzfi {K:List Int}{x:Nat}(hx:(x:Int)∉K):putV (numF K) x (.int .i64 (K.length:Nat))=numF (K++[(x:Int)]):=by
 funext i;unfold putV numF numL
 by_cases h:i=x
 ·subst h
  rw [if_pos rfl,if_pos (by simp),List.idxOf_append,if_neg hx];simp
 ·rw [if_neg h]
  have e:(i:Int)∈K++[(x:Int)]↔(i:Int)∈K:=by
   rw [List.mem_append,List.mem_singleton]
   constructor
   ·rintro(h1|h1)
    ·exact h1
    ·omega
   ·exact .inl
  by_cases hm:(i:Int)∈K
  ·rw [if_pos hm,if_pos (e.2 hm),List.idxOf_append,if_pos hm]
  ·rw [if_neg hm,if_neg fun h2=>hm (e.1 h2)]
theorem yzbg {W:World}{g n:Nat}{K:List Int}(h:BlkF W g 3 n (numF K))(hn:n<=1048576):IntsV W ((List.range n).map fun(i:Nat)=>numL K (i:Int)) (.slice (some ⟨g,0,none⟩) n n):=by
 have hl:((List.range n).map fun(i:Nat)=>numL K (i:Int)).length=n:=by simp
 refine⟨_,n,by rw [hl],by omega,fun _=>⟨g,0,rfl,BlkIs.lt h,fun i hi=>?_⟩⟩;rw [hl]at hi;rw [Nat.zero_add,BlkF.cell h hi,List.getElem_map,List.getElem_range];rfl
theorem ren_num {n:Nat}{K r:List Int}(hr:∀ x∈r, -1<=x/\x<(n:Int))(hK:∀ x∈K,0<=x):r.map (renI ((List.range n).map fun(i:Nat)=>numL K (i:Int)))=r.map (numL K):=by
 apply List.map_congr_left
 intro x hx;have h:=hr x hx;unfold renI
 by_cases e:x= -1
 ·rw [if_pos e,xzks fun hm=>by have:=hK x hm;omega]
 ·rw [if_neg e,List.getD_eq_getElem?_getD,List.getElem?_map,List.getElem?_range (by omega)]
  show numL K ((x.toNat:Nat):Int)=_
  rw [Int.toNat_of_nonneg (by omega)]
theorem yzbh {W:World}{g n:Nat}{l:List Int}(h:BlkF W g 3 n (intF l))(hl:l.length=n)(hn:n<=1048576):IntsV W l (.slice (some ⟨g,0,none⟩) n n):=by
 subst hl;refine⟨_,_,rfl,by omega,fun _=>⟨g,0,rfl,BlkIs.lt h,fun i hi=>?_⟩⟩;rw [Nat.zero_add,BlkF.cell h hi];unfold intF;rw [List.getD_eq_getElem?_getD,List.getElem?_eq_getElem hi];rfl
theorem xzqn (f:Nat->Nat)(n:Int):Tryz.prog.built 35 [(0,.agg (clsC f n))]=some (dfC f n (.slice none 0 0) (.slice none 0 0)):=by kernel_rfl
end Go.Proofs.YtdjpphjpnkfeiaaGreatDoor
