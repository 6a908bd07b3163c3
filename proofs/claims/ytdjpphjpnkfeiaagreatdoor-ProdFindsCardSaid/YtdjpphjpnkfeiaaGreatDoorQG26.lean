/-
 A ROW OF PARTS THAT GROWS beside a maker: its block is hidden, whichever it is. No condition.
-/
import Derived.Test.YtdjpphjpnkfeiaaGreatDoorQG25
import Derived.Test.YtdjpphjpnkfeiaaGreatDoorQG24
import Derived.Test.YtdjpphjpnkfeiaaGreatDoorQG14
namespace Go.Proofs.YtdjpphjpnkfeiaaGreatDoor
section
open Go.RowKit
section
variable {M K : Nat → Bool} {W W' : World} {v v' : Value}
theorem xzkq (hg:W.grownBy W' v.ownBlock)(hv:v'.ownBlock=v.ownBlock\/v'.ownBlock=some W.heap.size):Sub (hide W (MK M (Mv K v))) (hide W' (MK M (Mv K v'))):=xzbf fun k h1 h2=>by
 rw [MK_no,Mv_no]at h1;refine⟨?_,hg.block k h2 (fun e=>h1.2.2 e.symm)⟩;rw [MK_no,Mv_no];refine⟨h1.1,h1.2.1,?_⟩
 rcases hv with hv|hv
 ·rw [hv];exact h1.2.2
 ·rw [hv];intro e;injection e with e;omega
theorem MkAt.growl {pb:Nat}{S:Mk}{r f e m:Value}(h:MkAt M (Mv K v) W pb S r f e m)(hf:∀ k,v.ownBlock=some k->M k=false)(hg:W.grownBy W' v.ownBlock)(hv:v'.ownBlock=v.ownBlock\/v'.ownBlock=some W.heap.size):MkAt M (Mv K v') W' pb S r f e m:=
 h.sub (fun k hk hm=>hg.block k hk (fun e=>by rw [hf k e.symm]at hm;cases hm)) (xzkq hg hv)
theorem Mv_sub:Sub (hide W (MK M (Mv K v))) (hide W (MK M K)):=xzbf fun k h1 _=>by
 rw [MK_no,Mv_no]at h1;rw [MK_no];exact⟨⟨h1.1,h1.2.1⟩,rfl⟩
theorem MkAt.lessl {pb:Nat}{S:Mk}{r f e m:Value}(h:MkAt M (Mv K v) W pb S r f e m):MkAt M K W pb S r f e m:=h.sub (fun _ _ _=>rfl) Mv_sub
theorem xzvy {n:Nat}{xs:List Value}(ho:W.ownsRow 0 149 3 v n xs)(hn:n+1<=1099511627776){g:Nat}{a1 a2 a3:Value}(hg:BlkIs W g 149 #[a1,a2,a3])(h1:a1.oneCell'=true)(h2:a2.oneCell'=true)(h3:a3.oneCell'=true):
 ∃ v' W',(Builtin.append_ #[172,172] 172 #[v,.slice (some ⟨g,0,none⟩) 1 1]).run Tryz.prog W=.ok v' W'/\W'.ownsRow 0 149 3 v' (n+1) (xs++[a1,a2,a3])/\W.grownBy W' v.ownBlock/\(v'.ownBlock=v.ownBlock\/v'.ownBlock=some W.heap.size):=by
 obtain⟨i0,hi0,hz0,hz1,hz2⟩:=info_parts xzib
 have hnw:∀ j u,[a1,a2,a3][j]? =some u->W.cell? ((⟨g,0,none⟩:Addr).add j)=some u:=fun j u hu=>by
  rw [Addr.add_lit,Nat.zero_add,hg.cell j];simpa using hu
 have hone:∀ u∈[a1,a2,a3],u.oneCell'=true:=fun u hu=>by
  simp only [List.mem_cons,List.not_mem_nil,or_false]at hu
  rcases hu with rfl|rfl|rfl<;>assumption
 obtain⟨v',W',hr,k1,k2,_,k4⟩:=run_append_own_at (P:=Tryz.prog) (w:=W) 0 172 172 149 i0 _ 3 56 Tryz.underlying172 hi0 hz0 hz1 hz2 rfl (by decide) v n _ ho
  ⟨g,0,none⟩ 1 1 [a1,a2,a3] rfl hnw hone (by unfold maxLen;omega) (by omega) (Nat.zero_le _)
 exact⟨v',W',hr,k1,k2,k4⟩
structure RepI (M0 K:Nat->Bool)(w W:World)(pb:Nat)(S:Mk)(r f e m:Value)(ps:List Prt)(v:Value)(M:Nat->Bool)(xs:List Value):Prop where
 mka:MkAt M (Mv K v) W pb S r f e m
 nx:Nx M0 M w W
 lt:∀ k,M k=true->k<W.heap.size
 own:W.ownsRow 0 149 3 v ps.length xs
 prt:PrtL (hide W (MK M (Mv K v))) ps xs
 far:∀ k,v.ownBlock=some k->M k=false/\w.heap.size<=k
theorem RepI.step {M0:Nat->Bool}{w:World}{pb:Nat}{S:Mk}{r f e m:Value}{ps:List Prt}{xs:List Value}(h:RepI M0 K w W pb S r f e m ps v M xs)(hb:Below W.heap.size W W'):RepI M0 K w W' pb S r f e m ps v M xs:=
 ⟨h.mka.step hb,h.nx.trans (Nx.below hb),fun k hk=>Nat.lt_of_lt_of_le (h.lt k hk) hb.size,xzad h.own fun k hk=>hb.block k (World.ownsRow.lt h.own k hk).2,h.prt.sub (xzai _ hb),h.far⟩
theorem RepI.turn {M0 M2:Nat->Bool}{w:World}{pb:Nat}{S S2:Mk}{r f e m:Value}{ps:List Prt}{xs:List Value}(h:RepI M0 K w W pb S r f e m ps v M xs)(hn:Nx M M2 W W')(hlt:∀ k,M2 k=true->k<W'.heap.size)(hm:MkAt M2 (Mv K v) W' pb S2 r f e m):RepI M0 K w W' pb S2 r f e m ps v M2 xs:=
 ⟨hm,h.nx.trans hn,hlt,xzad h.own fun k hk=>hn.block k (World.ownsRow.lt h.own k hk).2 (h.far k hk).1,h.prt.sub (hn.sub _),fun k hk=>⟨(hn.mine k (World.ownsRow.lt h.own k hk).2).trans (h.far k hk).1,(h.far k hk).2⟩⟩
theorem RepI.more {M0:Nat->Bool}{w:World}{pb:Nat}{S:Mk}{r f e m:Value}{ps:List Prt}{xs:List Value}(h:RepI M0 K w W pb S r f e m ps v M xs)(hl:ps.length+1<=1099511627776){g:Nat}{q:Prt}{v1 v2:Value}(hg:BlkIs W g 149 #[v1,v2,.bool q.empty])
 (h1:IntsV (hide W (MK M (Mv K v))) q.first v1)(h2:IntsV (hide W (MK M (Mv K v))) q.ends v2):
 ∃ v' W',(Builtin.append_ #[172,172] 172 #[v,.slice (some ⟨g,0,none⟩) 1 1]).run Tryz.prog W=.ok v' W'/\RepI M0 K w W' pb S r f e m (ps++[q]) v' M (xs++[v1,v2,.bool q.empty])/\W.grownBy W' v.ownBlock/\(v'.ownBlock=v.ownBlock\/v'.ownBlock=some W.heap.size):=by
 obtain⟨A1,c1,e1,_⟩:=h1.form;obtain⟨A2,c2,e2,_⟩:=h2.form;obtain⟨v',W',hr,k1,k2,k3⟩:=xzvy h.own hl hg (by rw [e1];rfl) (by rw [e2];rfl) rfl;refine⟨v',W',hr,⟨h.mka.growl (fun k hk=>(h.far k hk).1) k2 k3,?_,fun k hk=>Nat.lt_of_lt_of_le (h.lt k hk) k2.size,by simpa using k1,(h.prt.sub (xzkq k2 k3)).snoc (h1.sub (xzkq k2 k3)) (h2.sub (xzkq k2 k3)),fun k hk=>?_⟩,k2,k3⟩
 ·exact⟨k2.os.trans h.nx.os,k2.tape.trans h.nx.tape,k2.output.trans h.nx.output,Nat.le_trans h.nx.size k2.size,fun k hk hm=>(k2.block k (Nat.lt_of_lt_of_le hk h.nx.size) (fun e=>by have:=(h.far k e.symm).2;omega)).trans (h.nx.block k hk hm),h.nx.mine⟩
 ·rcases k3 with k3|k3
  ·exact h.far k (k3▸hk)
  ·rw [k3]at hk
   injection hk with hk
   subst hk;refine⟨?_,h.nx.size⟩;rw [Bool.eq_false_iff];intro e;have:=h.lt _ e;omega
theorem RepI.fin {M0:Nat->Bool}{w:World}{pb:Nat}{S:Mk}{r f e m:Value}{ps:List Prt}{xs:List Value}(h:RepI M0 K w W pb S r f e m ps v M xs)(hne:ps≠[]):MkAt M K W pb S r f e m/\PrtsAt (hide W (MK M K)) (hide W M) ps v:=by
 refine⟨h.mka.lessl,?_⟩;have ho:=h.own
 rcases ho.2 with⟨hv,hz⟩|⟨B,cap,cur,rfl,_⟩
 ·exact absurd (List.eq_nil_of_length_eq_zero hz) hne
 ·have ho2:(hide W M).ownsRow 0 149 3 (.slice (some ⟨B,0,none⟩) ps.length cap) ps.length xs:=xzad ho fun k hk=>by
   rw [xzel,(h.far k hk).1];simp
  exact PrtL.parts (h.prt.sub Mv_sub) rfl ho2
end
end
section
open Go.RowKit
attribute [local irreducible] FreeW textFrame
end
section
open Go.RowKit
attribute [local irreducible] FreeW textFrame
end
section
open Go.RowKit
theorem xzgd {T:Tree}(h:T.mayN=true):T.ok=true:=by
 unfold Tree.mayN at h;simp only [Bool.and_eq_true]at h;exact h.2.2
end
section
open Go.RowKit
def la9:Tree:=ltr8 97
def lab9:Tree:=.node 2 (fun _=>false) [ltr8 97,ltr8 98] 0 0
theorem e9_may:la9.mayN=true/\lab9.mayN=true:=by decide+kernel
theorem e9_once:la9.once=true/\lab9.once=true:=by decide+kernel
theorem e9_nodes:la9.nodes=1/\lab9.nodes=3:=by decide+kernel
theorem e9_sumN:sumN [la9,lab9]=3:=by decide+kernel
theorem e9_sumP:sumP [la9]=1/\sumP [la9,lab9]=3:=by decide+kernel
theorem xzof:∀ t∈[la9,lab9],t.mayN=true/\PartIs t/\t.nodes<=1048576:=by
 intro t ht;simp only [List.mem_cons,List.not_mem_nil,or_false]at ht
 rcases ht with rfl|rfl
 ·exact⟨e9_may.1,xzgp la9 (xzgd e9_may.1) e9_once.1 (by rw [e9_nodes.1];decide),by rw [e9_nodes.1];decide⟩
 ·exact⟨e9_may.2,xzgp lab9 (xzgd e9_may.2) e9_once.2 (by rw [e9_nodes.2];decide),by rw [e9_nodes.2];decide⟩
theorem e9_okTs:okTs [la9,lab9]:=by
 unfold okTs;refine⟨xzvr la9 (xzgd e9_may.1),?_⟩;unfold okTs;refine⟨xzvr lab9 (xzgd e9_may.2),?_⟩;unfold okTs
 trivial
theorem e9_sums:∀ j,0<=sumP ([la9,lab9].take j)/\sumP ([la9,lab9].take j)<=2000
 |0=>by simp [sumP]
 |1=>by
  show 0<=sumP [la9]/\sumP [la9]<=2000
  rw [e9_sumP.1];decide
 |j+2=>by
  show 0<=sumP (la9::lab9::[].take j)/\sumP (la9::lab9::[].take j)<=2000
  rw [List.take_nil,e9_sumP.2];decide
def N9:Nf:=buildN [la9,lab9]
theorem xzru (A:Option Addr)(c:Nat)(w:World)(hat:∃ b o,A=some ⟨b,o,none⟩/\AllAt w [la9,lab9] b o):
 Calls Tryz.prog 44 #[.slice A 2 c] w fun x w'=>∃ v,x=.returned (.tuple #[v,.int .i64 0])/\NfaAt w' N9 v/\Below w.heap.size w w':=
 xzkp [la9,lab9] (by decide) (by decide) (fun t ht=>(xzof t ht).1) (fun t ht=>(xzof t ht).2.1) e9_okTs (fun t ht=>(xzof t ht).2.2) (by rw [e9_sumN];decide) e9_sums A c w (fun _=>hat)
theorem N9_small:N9.sets.length=3/\N9.may=true:=by decide+kernel
theorem N9_of:∀ b,b<256->ofN N9 b=if b=97 then 1 else if b=98 then 2 else 0:=by decide+kernel
theorem N9_cl:clN N9=3:=by decide+kernel
def lb9 (k:Nat):Nat:=if k=0 then 0 else if k=1 then 97 else 98
set_option maxRecDepth 20000 in
theorem N9_lb:∀ k,k<3->lbN N9 k=lb9 k:=fun k hk=>by
 obtain⟨_,h1,h2,h3⟩:=xzzn N9 (k:=k) (by rw [N9_cl];exact hk);rw [N9_of _ h1]at h2;unfold lb9
 have hl:∀ a,a<lbN N9 k->(if a=97 then 1 else if a=98 then 2 else 0)≠k:=fun a ha=>by
  have:=h3 a ha
  rwa [N9_of a (by omega)]at this
 obtain rfl|rfl|rfl:k=0\/k=1\/k=2:=by omega
 ·simp only [if_true]
  rcases Nat.eq_zero_or_pos (lbN N9 0)with e|e
  ·exact e
  ·exact absurd rfl (hl 0 e)
 ·have:lbN N9 1=97:=by
   by_cases e:lbN N9 1=97
   ·exact e
   ·rw [if_neg e]at h2
    split at h2<;>cases h2
  rw [this,if_neg (by decide)];rfl
 ·have:lbN N9 2=98:=by
   by_cases e:lbN N9 2=97
   ·rw [if_pos e]at h2;cases h2
   ·rw [if_neg e]at h2
    by_cases e2:lbN N9 2=98
    ·exact e2
    ·rw [if_neg e2]at h2;cases h2
  rw [this,if_neg (by decide)];rfl
theorem xzvz (N:Nf){lb lb':Nat->Nat}(a:Nat)(L:List (List Int)):∀ k,(∀ j,j<k->lb j=lb' j)->rowTo N lb a L k=rowTo N lb' a L k
 |0,_=>rfl
 |k+1,h=>by
  unfold rowTo;rw [xzvz N a L k fun j hj=>h j (by omega),h k (by omega)]
theorem xzkr (N:Nf){lb lb':Nat->Nat}(C:Nat)(h:∀ j,j<C->lb j=lb' j):∀ n,subTo N lb C n=subTo N lb' C n
 |0=>rfl
 |n+1=>by
  unfold subTo;rw [xzkr N C h n]
  cases subTo N lb' C n with
  |none=>rfl
  |some p=>
   obtain⟨L,R⟩:=p;simp only [xzvz N n L C h]
theorem N9_sub3:subTo N9 lb9 3 3=some ([[],[0,1],[2]],[[-1,1, -1],[-1, -1,2],[-1, -1, -1]]):=by decide+kernel
theorem N9_sub:subZ N9 (lbN N9) (clN N9)=some ([[],[0,1],[2]],[[-1,1, -1],[-1, -1,2],[-1, -1, -1]]):=by
 rw [N9_cl];refine xzgl N9 (lbN N9) 3 3 ?_ (by decide);rw [xzkr N9 3 N9_lb];exact N9_sub3
def D9:Df:=⟨ofN N9,3,[[-1,1, -1],[-1, -1,2],[-1, -1, -1]],[-1,0,1]⟩
theorem N9_tags:tagsL N9 [[],[0,1],[2]]=[-1,0,1]:=by decide+kernel
theorem N9_ans:subAns N9=(D9,0):=by
 unfold subAns;rw [if_pos N9_small.2,N9_sub];simp only [N9_tags,N9_cl]
 rfl
theorem yzau:D9.may=true:=by
 have h:mayB (ofN N9) ((3:Nat):Int)=true:=by rw [<-N9_cl];exact xzke _
 unfold Df.may;rw [show mayB D9.of D9.n=true from h]
 decide+kernel
end
end Go.Proofs.YtdjpphjpnkfeiaaGreatDoor
