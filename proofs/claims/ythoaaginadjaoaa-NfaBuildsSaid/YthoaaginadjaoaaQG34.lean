/-
 A ROW OF PARTS THAT GROWS beside a maker: its block is hidden, whichever it is. No condition.
-/
import Derived.Test.YthoaaginadjaoaaQG33
namespace Go.Proofs.Ythoaaginadjaoaa
section
open Go.RowKit
section
variable {M K : Nat → Bool} {W W' : World} {v v' : Value}
theorem xzgi (hg:W.grownBy W' v.ownBlock)(hv:v'.ownBlock=v.ownBlock\/v'.ownBlock=some W.heap.size):Sub (hide W (MK M (Mv K v))) (hide W' (MK M (Mv K v'))):=xzaw fun k h1 h2=>by
 rw [MK_no,Mv_no]at h1;refine⟨?_,hg.block k h2 (fun e=>h1.2.2 e.symm)⟩;rw [MK_no,Mv_no];refine⟨h1.1,h1.2.1,?_⟩
 rcases hv with hv|hv
 ·rw [hv];exact h1.2.2
 ·rw [hv];intro e;injection e with e;omega
theorem MkAt.growl {pb:Nat}{S:Mk}{r f e m:Value}(h:MkAt M (Mv K v) W pb S r f e m)(hf:∀ k,v.ownBlock=some k->M k=false)(hg:W.grownBy W' v.ownBlock)(hv:v'.ownBlock=v.ownBlock\/v'.ownBlock=some W.heap.size):MkAt M (Mv K v') W' pb S r f e m:=
 h.sub (fun k hk hm=>hg.block k hk (fun e=>by rw [hf k e.symm]at hm;cases hm)) (xzgi hg hv)
theorem Mv_sub:Sub (hide W (MK M (Mv K v))) (hide W (MK M K)):=xzaw fun k h1 _=>by
 rw [MK_no,Mv_no]at h1;rw [MK_no];exact⟨⟨h1.1,h1.2.1⟩,rfl⟩
theorem MkAt.lessl {pb:Nat}{S:Mk}{r f e m:Value}(h:MkAt M (Mv K v) W pb S r f e m):MkAt M K W pb S r f e m:=h.sub (fun _ _ _=>rfl) Mv_sub
theorem xzpd {n:Nat}{xs:List Value}(ho:W.ownsRow 0 73 3 v n xs)(hn:n+1<=1099511627776){g:Nat}{a1 a2 a3:Value}(hg:BlkIs W g 73 #[a1,a2,a3])(h1:a1.oneCell'=true)(h2:a2.oneCell'=true)(h3:a3.oneCell'=true):
 ∃ v' W',(Builtin.append_ #[87,87] 87 #[v,.slice (some ⟨g,0,none⟩) 1 1]).run Try.prog W=.ok v' W'/\W'.ownsRow 0 73 3 v' (n+1) (xs++[a1,a2,a3])/\W.grownBy W' v.ownBlock/\(v'.ownBlock=v.ownBlock\/v'.ownBlock=some W.heap.size):=by
 obtain⟨i0,hi0,hz0,hz1,hz2⟩:=info_parts xzgg
 have hnw:∀ j u,[a1,a2,a3][j]? =some u->W.cell? ((⟨g,0,none⟩:Addr).add j)=some u:=fun j u hu=>by
  rw [Addr.add_lit,Nat.zero_add,hg.cell j];simpa using hu
 have hone:∀ u∈[a1,a2,a3],u.oneCell'=true:=fun u hu=>by
  simp only [List.mem_cons,List.not_mem_nil,or_false]at hu
  rcases hu with rfl|rfl|rfl<;>assumption
 obtain⟨v',W',hr,k1,k2,_,k4⟩:=run_append_own_at (P:=Try.prog) (w:=W) 0 87 87 73 i0 _ 3 56 Try.underlying87 hi0 hz0 hz1 hz2 rfl (by decide) v n _ ho
  ⟨g,0,none⟩ 1 1 [a1,a2,a3] rfl hnw hone (by unfold maxLen;omega) (by omega) (Nat.zero_le _)
 exact⟨v',W',hr,k1,k2,k4⟩
structure RepI (M0 K:Nat->Bool)(w W:World)(pb:Nat)(S:Mk)(r f e m:Value)(ps:List Prt)(v:Value)(M:Nat->Bool)(xs:List Value):Prop where
 mka:MkAt M (Mv K v) W pb S r f e m
 nx:Nx M0 M w W
 lt:∀ k,M k=true->k<W.heap.size
 own:W.ownsRow 0 73 3 v ps.length xs
 prt:PrtL (hide W (MK M (Mv K v))) ps xs
 far:∀ k,v.ownBlock=some k->M k=false/\w.heap.size<=k
theorem RepI.step {M0:Nat->Bool}{w:World}{pb:Nat}{S:Mk}{r f e m:Value}{ps:List Prt}{xs:List Value}(h:RepI M0 K w W pb S r f e m ps v M xs)(hb:Below W.heap.size W W'):RepI M0 K w W' pb S r f e m ps v M xs:=
 ⟨h.mka.step hb,h.nx.trans (Nx.below hb),fun k hk=>Nat.lt_of_lt_of_le (h.lt k hk) hb.size,xzac h.own fun k hk=>hb.block k (World.ownsRow.lt h.own k hk).2,h.prt.sub (xzad _ hb),h.far⟩
theorem RepI.turn {M0 M2:Nat->Bool}{w:World}{pb:Nat}{S S2:Mk}{r f e m:Value}{ps:List Prt}{xs:List Value}(h:RepI M0 K w W pb S r f e m ps v M xs)(hn:Nx M M2 W W')(hlt:∀ k,M2 k=true->k<W'.heap.size)(hm:MkAt M2 (Mv K v) W' pb S2 r f e m):RepI M0 K w W' pb S2 r f e m ps v M2 xs:=
 ⟨hm,h.nx.trans hn,hlt,xzac h.own fun k hk=>hn.block k (World.ownsRow.lt h.own k hk).2 (h.far k hk).1,h.prt.sub (hn.sub _),fun k hk=>⟨(hn.mine k (World.ownsRow.lt h.own k hk).2).trans (h.far k hk).1,(h.far k hk).2⟩⟩
theorem RepI.more {M0:Nat->Bool}{w:World}{pb:Nat}{S:Mk}{r f e m:Value}{ps:List Prt}{xs:List Value}(h:RepI M0 K w W pb S r f e m ps v M xs)(hl:ps.length+1<=1099511627776){g:Nat}{q:Prt}{v1 v2:Value}(hg:BlkIs W g 73 #[v1,v2,.bool q.empty])
 (h1:IntsV (hide W (MK M (Mv K v))) q.first v1)(h2:IntsV (hide W (MK M (Mv K v))) q.ends v2):
 ∃ v' W',(Builtin.append_ #[87,87] 87 #[v,.slice (some ⟨g,0,none⟩) 1 1]).run Try.prog W=.ok v' W'/\RepI M0 K w W' pb S r f e m (ps++[q]) v' M (xs++[v1,v2,.bool q.empty])/\W.grownBy W' v.ownBlock/\(v'.ownBlock=v.ownBlock\/v'.ownBlock=some W.heap.size):=by
 obtain⟨A1,c1,e1,_⟩:=h1.form;obtain⟨A2,c2,e2,_⟩:=h2.form;obtain⟨v',W',hr,k1,k2,k3⟩:=xzpd h.own hl hg (by rw [e1];rfl) (by rw [e2];rfl) rfl;refine⟨v',W',hr,⟨h.mka.growl (fun k hk=>(h.far k hk).1) k2 k3,?_,fun k hk=>Nat.lt_of_lt_of_le (h.lt k hk) k2.size,by simpa using k1,(h.prt.sub (xzgi k2 k3)).snoc (h1.sub (xzgi k2 k3)) (h2.sub (xzgi k2 k3)),fun k hk=>?_⟩,k2,k3⟩
 ·exact⟨k2.os.trans h.nx.os,k2.tape.trans h.nx.tape,k2.output.trans h.nx.output,Nat.le_trans h.nx.size k2.size,fun k hk hm=>(k2.block k (Nat.lt_of_lt_of_le hk h.nx.size) (fun e=>by have:=(h.far k e.symm).2;omega)).trans (h.nx.block k hk hm),h.nx.mine⟩
 ·rcases k3 with k3|k3
  ·exact h.far k (k3▸hk)
  ·rw [k3]at hk
   injection hk with hk
   subst hk;refine⟨?_,h.nx.size⟩;rw [Bool.eq_false_iff];intro e;have:=h.lt _ e;omega
theorem RepI.fin {M0:Nat->Bool}{w:World}{pb:Nat}{S:Mk}{r f e m:Value}{ps:List Prt}{xs:List Value}(h:RepI M0 K w W pb S r f e m ps v M xs)(hne:ps≠[]):MkAt M K W pb S r f e m/\PrtsAt (hide W (MK M K)) (hide W M) ps v:=by
 refine⟨h.mka.lessl,?_⟩;have ho:=h.own
 rcases ho.2 with⟨hv,hz⟩|⟨B,cap,cur,rfl,_⟩
 ·exact absurd (List.eq_nil_of_length_eq_zero hz) hne
 ·have ho2:(hide W M).ownsRow 0 73 3 (.slice (some ⟨B,0,none⟩) ps.length cap) ps.length xs:=xzac ho fun k hk=>by
   rw [xzeq,(h.far k hk).1];simp
  exact PrtL.parts (h.prt.sub Mv_sub) rfl ho2
end
end
section
open Go.RowKit
attribute [local irreducible] FreeW textFrame
theorem xzit {p:Prt}{i j:Nat}(hij:i<=j)(hp:p.Ok j):∀ (n:Nat) (S:Mk) (l:List Prt),S.Ok->j<=S.sets.length->(∀ r∈(S.follow.drop i).take (j - i),risesB j (-1) r=true)->(∀ q∈l,q.Ok S.sets.length)->
 ((copyN p i j n S l).1.follow.drop i).take (j - i)=(S.follow.drop i).take (j - i)
 |0,S,l,_,_,_,_=>rfl
 |n+1,S,l,h,hj,hr,hl=>by
  rw [xzgf];obtain⟨k1,k2,_,_⟩:=xzdq hij hp n S l h hj hr hl;rw [xzcr k1.1 (by omega)];exact xzit hij hp n S l h hj hr hl
set_option maxRecDepth 20000 in
set_option maxHeartbeats 16000000 in
theorem xziu (t:Tree)(IH:PartIs t)(hokt:t.okT)(M K:Nat->Bool)(S:Mk)(mm:Nat->Bool)(A:Option Addr)(c:Nat)(lo hi:Int)(nn:Nat)(hz:copiesI lo hi=((nn+1:Nat):Int))(hnn:nn<=1048576)(pb:Nat)(r f e m:Value)(w:World)(hm:MkAt M K w pb S r f e m)
 (hat:∃ b o,A=some ⟨b,o,none⟩/\∃ cs:List Value,Tree.At (hide w M) t (.agg cs.toArray)/\cs.length=8/\(hide w M).rangeAt b o cs)
 (hS:S.Ok)(hn:S.sets.length+(nn+1)*t.plN<=1048576)(hM:∀ k,M k=true->k<w.heap.size)(hK:∀ k,K k=true->k<w.heap.size):
 Calls Try.prog 51 #[.pointer (some ⟨pb,0,none⟩),reV 4 mm A 1 c lo hi] w fun x w'=>∃ M' v',x=.returned v'/\Nx M M' w w'/\(∀ k,M' k=true->k<w'.heap.size)/\
  ∃ C L,copyN (partP t S).2 S.sets.length (partP t S).1.sets.length nn (partP t S).1 [(partP t S).2]=(C,L)/\MkAt M' K w' pb ⟨C.sets,if hi= -1 then linkF C.follow (L.getLastD ⟨[],[],true⟩).ends (L.getLastD ⟨[],[],true⟩).first else C.follow⟩ r f e m/\PrtsAt (hide w' (MK M' K)) (hide w' M') L v':=by
 have hb:Below w.heap.size w (w.alloc (.cells (reL 4 mm A 1 c lo hi).toArray 39)):=(Below.refl _ _).alloc (Nat.le_refl _) _;have hx:=BlkIs.new w 39 (reL 4 mm A 1 c lo hi).toArray;have HC:=zd (fun u=>xzfx 4 mm A 1 c lo hi u);rw [hz]at HC;obtain⟨b,o,rfl,cs,hcat,hlen,hrow⟩:=hat;obtain⟨A',n',c',rfl⟩:=hcat.eight;obtain⟨hpo,hp2,hp3⟩:=xzbj t S hokt hS
 have hn1:S.sets.length+t.plN<=1048576:=by rw [Nat.succ_mul]at hn;omega
 have hle:S.sets.length<=(partP t S).1.sets.length:=by omega
 have hr0:∀ r∈((partP t S).1.follow.drop S.sets.length).take ((partP t S).1.sets.length - S.sets.length),risesB (partP t S).1.sets.length (-1) r=true:=fun r hr=>hpo.2 r (List.mem_of_mem_drop (List.mem_of_mem_take hr))
 have hl0:∀ q∈[(partP t S).2],q.Ok (partP t S).1.sets.length:=fun q hq=>by obtain rfl:=List.mem_singleton.1 hq;exact hp2
 have HCN:=zd (fun q=>xzdq hle hp2 q (partP t S).1 [(partP t S).2] hpo (Nat.le_refl _) hr0 hl0);have HKP:=zd (fun q=>xzit hle hp2 q (partP t S).1 [(partP t S).2] hpo (Nat.le_refl _) hr0 hl0);have HSN:=zd (fun q=>xzgf (partP t S).2 S.sets.length (partP t S).1.sets.length q (partP t S).1 [(partP t S).2]);have HRO:=zd hr0
 have HBD:=zd (show ∀ q,q<=nn->(partP t S).1.sets.length+q*((partP t S).1.sets.length - S.sets.length)<=1048576 from fun q hq=>by
  have h1:(partP t S).1.sets.length - S.sets.length=t.plN:=by omega
  rw [h1];have h2:=Nat.mul_le_mul_right t.plN hq;rw [Nat.succ_mul]at hn
  omega)
 have HP:=zd (And.intro hpo (And.intro hp2 hle));have HI:=zd (fun u (hu:Below w.heap.size w u)=>IH M K S _ pb r f e m u (hm.step hu) (hcat.sub (xzad _ hu)) hS hn1 (fun k hk=>Nat.lt_of_lt_of_le (hM k hk) hu.size) (fun k hk=>Nat.lt_of_lt_of_le (hK k hk) hu.size));have HR:=zd (fun u (hu:Below w.heap.size w u)=>xzaj (fun i x hi=>(hu.cell (World.block_lt_of_cell? w _ (xzar _ _ (hrow i x hi)))).trans (xzar _ _ (hrow i x hi))) (Below.refl u.heap.size u));have HMR:=zd (fun u (hu:Below w.heap.size w u)=>(hm.step hu).read);have HX:=zd (And.intro hb hx);have HK:=zd hK;have HM:=zd hM;have HMF:=zd (show M w.heap.size=false by rw [Bool.eq_false_iff];intro e;have:=hM _ e;omega);obtain⟨d0,d1,d2,d3,d4,d5,d6,d7⟩:=hx.eight;have hc1:1<=1:=Nat.le_refl _;have HNN:=zd hnn;unfold reV reL at*;clear hb hx hz hcat hrow hlen hpo hp2 hp3 hm hS hn hn1 hM hK IH hokt hc1 hr0 hl0 hle hnn;generalize partP t S=TS at*;generalize t.kind=kx at*;generalize t.set=mx at*;generalize t.lo=lx at*;generalize t.hi=hxx at*
 go_enter Try.func51,Try.ntmps51
 go_wp2_with fail
 go_at_call 42
 refine(HC.out _).mono ?_;rintro x u ⟨rfl,hu⟩;have hbu:=HX.out.1.trans (hu.mono HX.out.1.size);have hxu:=HX.out.2.step hu;have HU:=zd (And.intro hbu hxu);obtain⟨As,cs,hvs⟩:=HMR.out u hbu;obtain⟨r0,r1,r2,r3,r4,r5,r6,r7⟩:=HR.out u hbu;clear d0 d1 d2 d3 d4 d5 d6 d7;obtain⟨d0,d1,d2,d3,d4,d5,d6,d7⟩:=hxu.eight;have HI2:=zd (HI.out u hbu);clear hu hbu hxu
 have hzz:((((nn+1:Nat):Int))==0)=false:=by simp;omega
 have hz2:((nn:Int)+1==0)=false:=by simp;omega
 go_wp2_with fail
 go_at_call 39
 refine HI2.out.mono ?_;rintro x u1 ⟨M1,v1,rfl,hnx,hlt1,hmk,p1,p2,rfl,hp1,hp2⟩;obtain⟨Y1,y1,rfl,_⟩:=hp1.form;obtain⟨Y2,y2,rfl,_⟩:=hp2.form;obtain⟨U2,hU2⟩:∃ U2,u1.alloc (.cells #[.slice Y1 TS.2.first.length y1,.slice Y2 TS.2.ends.length y2,.bool TS.2.empty] 73)=U2:=⟨_,rfl⟩;obtain⟨U3,hU3⟩:∃ U3,U2.alloc (.cells #[.slice Y1 TS.2.first.length y1,.slice Y2 TS.2.ends.length y2,.bool TS.2.empty] 73)=U3:=⟨_,rfl⟩
 have hb2:Below u1.heap.size u1 U2:=by rw [<-hU2];exact(Below.refl _ _).alloc (Nat.le_refl _) _
 have hs2:U2.heap.size=u1.heap.size+1:=by rw [<-hU2];simp
 have hf2:BlkIs U2 u1.heap.size 73 #[.slice Y1 TS.2.first.length y1,.slice Y2 TS.2.ends.length y2,.bool TS.2.empty]:=by rw [<-hU2];exact BlkIs.new _ _ _
 have hb3:Below U2.heap.size U2 U3:=by rw [<-hU3];exact(Below.refl _ _).alloc (Nat.le_refl _) _
 have hown3:U3.ownsRow 0 73 3 (.slice (some ⟨u1.heap.size+1,0,none⟩) 1 1) 1 [.slice Y1 TS.2.first.length y1,.slice Y2 TS.2.ends.length y2,.bool TS.2.empty]:=by
  rw [<-hU3,<-hs2];exact World.ownsRow_lit U2 #[.slice Y1 TS.2.first.length y1,.slice Y2 TS.2.ends.length y2,.bool TS.2.empty] 1 (Nat.zero_le _) (by decide) rfl
 have hb23:Below u1.heap.size u1 U3:=hb2.trans (hb3.mono hb2.size);have hf3:BlkIs U3 u1.heap.size 73 #[.slice Y1 TS.2.first.length y1,.slice Y2 TS.2.ends.length y2,.bool TS.2.empty]:=hf2.step hb3;have hx3:BlkIs U3 w.heap.size 39 _:=((HU.out.2.nx hnx HMF.out).step hb2).step hb3;have hsw:w.heap.size<u1.heap.size:=Nat.lt_of_lt_of_le HU.out.2.lt hnx.size;have hob:(Value.slice (some ⟨u1.heap.size+1,0,none⟩) 1 1).ownBlock=some (u1.heap.size+1):=rfl
 have hup:Sub (hide u1 (MK M1 K)) (hide U3 (MK M1 (Mv K (.slice (some ⟨u1.heap.size+1,0,none⟩) 1 1)))):=xzaw fun k h1 h2=>by
  rw [MK_no]at h1;refine⟨?_,hb23.block k h2⟩;rw [MK_no,Mv_no,hob];exact⟨h1.1,h1.2,fun e=>by injection e with e;omega⟩
 have hrep:RepI M K w U3 pb TS.1 r f e m [TS.2] (.slice (some ⟨u1.heap.size+1,0,none⟩) 1 1) M1 [.slice Y1 TS.2.first.length y1,.slice Y2 TS.2.ends.length y2,.bool TS.2.empty]:=
  ⟨hmk.sub (fun k hk _=>hb23.block k hk) hup,(Nx.below HU.out.1).trans (hnx.trans (Nx.below hb23)),fun k hk=>Nat.lt_of_lt_of_le (hlt1 k hk) hb23.size,hown3,(PrtL.nil _).snoc (hp1.sub hup) (hp2.sub hup),fun k hk=>by
   rw [hob]at hk;injection hk with hk;subst hk
   exact⟨by rw [Bool.eq_false_iff];intro e;have:=hlt1 _ e;omega,by omega⟩⟩
 have hfr:(w.heap.size<U3.heap.size/\M1 w.heap.size=false)/\(u1.heap.size<U3.heap.size/\M1 u1.heap.size=false):=by
  refine⟨⟨hx3.lt,(hnx.mine _ HU.out.2.lt).trans HMF.out⟩,hf3.lt,?_⟩;rw [Bool.eq_false_iff];intro e;have:=hlt1 _ e;omega
 have H3:=zd (And.intro hrep (And.intro (hp1.sub hup) (And.intro (hp2.sub hup) (And.intro hf3 (And.intro hx3 hfr)))));have hvr:=hmk.step hb2;obtain⟨Bs,bs,hvs2⟩:=hvr.read;obtain⟨f0,f1,f2,_,_,_⟩:=three hf2;have HSW:=zd hsw;clear d0 d1 d2 d3 d4 d5 d6 d7 r0 r1 r2 r3 r4 r5 r6 r7 hvs hnx hlt1 hmk hp1 hp2 hb2 hb3 hb23 hf2 hf3 hx3 hown3 hup hrep hfr hvr hsw hob;go_wp2
 go_loopw [9] (fun s wr=>∃ (q:Nat) (Al:Option Addr) (cl:Nat),s=.slice Al (q+1) cl/\q<=nn/\Hid (∃ (M2:Nat->Bool) (xs:List Value),RepI M K w wr pb (copyN TS.2 S.sets.length TS.1.sets.length q TS.1 [TS.2]).1 r f e m (copyN TS.2 S.sets.length TS.1.sets.length q TS.1 [TS.2]).2 (.slice Al (q+1) cl) M2 xs/\IntsV (hide wr (MK M2 (Mv K (.slice Al (q+1) cl)))) TS.2.first (.slice Y1 TS.2.first.length y1)/\IntsV (hide wr (MK M2 (Mv K (.slice Al (q+1) cl)))) TS.2.ends (.slice Y2 TS.2.ends.length y2)/\BlkIs wr u1.heap.size 73 #[.slice Y1 TS.2.first.length y1,.slice Y2 TS.2.ends.length y2,.bool TS.2.empty]/\BlkIs wr w.heap.size 39 #[.int .i64 4,.int .u64 (wd mm 0:Nat),.int .u64 (wd mm 1:Nat),.int .u64 (wd mm 2:Nat),.int .u64 (wd mm 3:Nat),.slice (some ⟨b,o,none⟩) 1 c,.int .i64 lo,.int .i64 hi]/\(M2 w.heap.size=false/\((.slice Al (q+1) cl):Value).ownBlock≠some w.heap.size)/\(M2 u1.heap.size=false/\((.slice Al (q+1) cl):Value).ownBlock≠some u1.heap.size))) (fun s _=>nn+1 - lenV s)
 case atStart=>
  have hsw:=HSW.out;exact⟨0,_,_,rfl,Nat.zero_le _,zd ⟨M1,_,H3.out.1,H3.out.2.1,H3.out.2.2.1,H3.out.2.2.2.1,H3.out.2.2.2.2.1,⟨H3.out.2.2.2.2.2.1.2,fun e=>by have e2:u1.heap.size+1=w.heap.size:=Option.some.inj e;omega⟩,⟨H3.out.2.2.2.2.2.2.2,fun e=>by have e2:u1.heap.size+1=u1.heap.size:=Option.some.inj e;omega⟩⟩⟩
 case round=>
  obtain⟨q,Al,cl,rfl,hq,HH⟩:=hrel;clear f0 f1 f2 hvs2;obtain⟨M2,xs,hrep,hp1,hp2,hbf,hbx,hfx,hff⟩:=HH.out;clear HH;obtain⟨hcn1,hcn2,hcn3,hcn4⟩:=HCN.out q;have hkp:=HKP.out q;have hsn:=HSN.out q;have hbd:=HBD.out q hq;obtain⟨SC,hSC⟩:∃ SC,(copyN TS.2 S.sets.length TS.1.sets.length q TS.1 [TS.2])=SC:=⟨_,rfl⟩;rw [hSC]at hrep hcn1 hcn2 hcn3 hcn4 hkp hsn;obtain⟨f0,f1,f2,_,_,_⟩:=three hbf
  by_cases hp:q<nn
  ·have hdl1:decide (((q+1:Nat):Int)<(nn:Int)+1)=true:=by simp;omega
   have hdl2:decide ((q:Int)+1<(nn:Int)+1)=true:=by simp;omega
   have hbd2:=HBD.out (q+1) hp;rw [Nat.succ_mul]at hbd2
   have hVlt:∀ k,Mv K (.slice Al (q+1) cl) k=true->k<wr.heap.size:=fun k hk=>by
    unfold Mv at hk;simp only [Bool.or_eq_true,decide_eq_true_eq]at hk
    rcases hk with hk|hk
    ·have:=HK.out k hk;have:=hrep.nx.size;omega
    ·exact(World.ownsRow.lt hrep.own k hk).2
   have HCO:=zd (xzpc M2 (Mv K (.slice Al (q+1) cl)) SC.1 TS.2 _ _ S.sets.length TS.1.sets.length pb r f e m wr hrep.mka hp1 hp2 hcn1 HP.out.2.1 HP.out.2.2 (by rw [hcn2];omega) (by rw [hkp];exact HRO.out) (by rw [hcn2];omega) hrep.lt hVlt);have HG:=zd (And.intro hrep (And.intro hp1 (And.intro hp2 (And.intro hbf (And.intro hbx (And.intro hfx hff))))));have HL:=zd (And.intro hcn3 (And.intro hsn (show q+2<=1099511627776 by have:=HNN.out;omega)));clear hrep hp1 hp2 hbf hbx hfx hff hcn1 hcn2 hcn3 hcn4 hkp hsn hbd hbd2 hVlt hSC
   go_wp2_with fail
   go_at_call 59
   refine HCO.out.mono ?_;rintro x c1 ⟨M3,v3,rfl,hnx3,hlt3,hmk3,a1,a2,rfl,ha1,ha2⟩;obtain⟨Z1,z1,rfl, -⟩:=ha1.form;obtain⟨Z2,z2,rfl, -⟩:=ha2.form;obtain⟨U4,hU4⟩:∃ U4,c1.alloc (.cells #[.slice Z1 (shiftP ((SC.1.sets.length:Int) - S.sets.length) TS.2).first.length z1,.slice Z2 (shiftP ((SC.1.sets.length:Int) - S.sets.length) TS.2).ends.length z2,.bool (shiftP ((SC.1.sets.length:Int) - S.sets.length) TS.2).empty] 73)=U4:=⟨_,rfl⟩
   have hb4:Below c1.heap.size c1 U4:=by rw [<-hU4];exact(Below.refl _ _).alloc (Nat.le_refl _) _
   have hf4:BlkIs U4 c1.heap.size 73 #[.slice Z1 (shiftP ((SC.1.sets.length:Int) - S.sets.length) TS.2).first.length z1,.slice Z2 (shiftP ((SC.1.sets.length:Int) - S.sets.length) TS.2).ends.length z2,.bool (shiftP ((SC.1.sets.length:Int) - S.sets.length) TS.2).empty]:=by rw [<-hU4];exact BlkIs.new _ _ _
   obtain⟨v5,W5,hrun,hrep5,hg5,hv5⟩:=((HG.out.1.turn hnx3 hlt3 hmk3).step hb4).more (by have:=HL.out.1;have:=HL.out.2.2;simp at*;omega) hf4 (ha1.sub (xzad _ hb4)) (ha2.sub (xzad _ hb4))
   have hl5:(SC.2++[(shiftP ((SC.1.sets.length:Int) - S.sets.length) TS.2)]).length=q+1+1:=by have:=HL.out.1;simp at*;omega
   obtain⟨A5,c5,hv5e, -⟩:∃ A c,v5=.slice A (SC.2++[(shiftP ((SC.1.sets.length:Int) - S.sets.length) TS.2)]).length c/\_:=xzak hrep5.own;rw [hl5]at hv5e;subst hv5e
   have hold:∀ g t0 cc,BlkIs wr g t0 cc->M2 g=false->((.slice Al (q+1) cl):Value).ownBlock≠some g->BlkIs W5 g t0 cc/\M3 g=false/\(Value.slice A5 (q+1+1) c5).ownBlock≠some g:=fun g t0 cc h1 h2 h3=>by
    have k1:=h1.nx hnx3 h2;have k2:=k1.step hb4;refine⟨(hg5.block g k2.lt (fun e=>h3 e.symm)).trans k2,(hnx3.mine g h1.lt).trans h2,?_⟩
    rcases hv5 with h|h
    ·rw [h];exact h3
    ·rw [h];intro e;injection e with e;have:=k2.lt;omega
   have HF:=zd (show ∃ (M2:Nat->Bool) (xs:List Value),RepI M K w W5 pb (copyN TS.2 S.sets.length TS.1.sets.length (q+1) TS.1 [TS.2]).1 r f e m (copyN TS.2 S.sets.length TS.1.sets.length (q+1) TS.1 [TS.2]).2 (.slice A5 (q+1+1) c5) M2 xs/\IntsV (hide W5 (MK M2 (Mv K (.slice A5 (q+1+1) c5)))) TS.2.first (.slice Y1 TS.2.first.length y1)/\IntsV (hide W5 (MK M2 (Mv K (.slice A5 (q+1+1) c5)))) TS.2.ends (.slice Y2 TS.2.ends.length y2)/\BlkIs W5 u1.heap.size 73 #[.slice Y1 TS.2.first.length y1,.slice Y2 TS.2.ends.length y2,.bool TS.2.empty]/\BlkIs W5 w.heap.size 39 #[.int .i64 4,.int .u64 (wd mm 0:Nat),.int .u64 (wd mm 1:Nat),.int .u64 (wd mm 2:Nat),.int .u64 (wd mm 3:Nat),.slice (some ⟨b,o,none⟩) 1 c,.int .i64 lo,.int .i64 hi]/\(M2 w.heap.size=false/\((.slice A5 (q+1+1) c5):Value).ownBlock≠some w.heap.size)/\(M2 u1.heap.size=false/\((.slice A5 (q+1+1) c5):Value).ownBlock≠some u1.heap.size)from by
    rw [HL.out.2.1];have hs5:=((hnx3.sub (Mv K (.slice Al (q+1) cl))).trans (xzad _ hb4)).trans (xzgi hg5 hv5);have q1:=hold _ _ _ HG.out.2.2.2.1 HG.out.2.2.2.2.2.2.1 HG.out.2.2.2.2.2.2.2;have q2:=hold _ _ _ HG.out.2.2.2.2.1 HG.out.2.2.2.2.2.1.1 HG.out.2.2.2.2.2.1.2
    exact⟨M3,_,hrep5,HG.out.2.1.sub hs5,HG.out.2.2.1.sub hs5,q1.1,q2.1,q2.2,q1.2⟩)
   clear hnx3 hlt3 hmk3 ha1 ha2 hb4 hf4 hrep5 hg5 hv5 hl5 hold
   go_wp2_with(refine xzal rfl _ _ 87 87 rfl rfl rfl hrun ?_)
   exact⟨⟨q+1,A5,c5,rfl,hp,HF⟩,by simp [lenV];omega⟩
  ·obtain rfl:nn=q:=by omega
   have hdl1:decide (((nn+1:Nat):Int)<(nn:Int)+1)=false:=by simp
   have hdl2:decide ((nn:Int)+1<(nn:Int)+1)=false:=by simp
   have hdl3:decide ((nn:Int)<(nn:Int))=false:=by simp
   obtain⟨d0,d1,d2,d3,d4,d5,d6,d7⟩:=hbx.eight
   have hl9:SC.2.length=nn+1:=by have:=hcn3;simp only [List.length_singleton]at this;omega
   have hlt5:nn<SC.2.length:=by omega
   have HSE:=zd hSC;clear hSC
   by_cases hh:hi= -1
   ·have e1:(hi== -1)=true:=by simp [hh]
    obtain⟨g,rfl⟩:∃ g,Al=some ⟨g,0,none⟩:=by
     rcases hrep.own.2 with⟨hA,hB⟩|⟨g,cap,cur,hA,_⟩
     ·omega
     ·injection hA with hA
      exact⟨g,hA⟩
    obtain⟨z1,z2,hz1,hz2,hz3,hz4,hz5⟩:=hrep.prt.2 nn hlt5
    have hcz:=fun j x hx=>hrep.own.cells (g:=g) rfl j x hx
    have c0:=hcz _ _ hz1;have c1:=hcz _ _ hz2;have c2:=hcz _ _ hz3;simp only [Addr.add_lit,Nat.zero_add]at c0 c1 c2
    have hlast:SC.2.getLast?.getD ⟨[],[],true⟩=SC.2[nn]:=by
     rw [List.getLast?_eq_getElem?,show SC.2.length - 1=nn by omega,List.getElem?_eq_getElem hlt5]
     rfl
    have hzo:=hcn4 _ (List.getElem_mem hlt5);obtain⟨ZP,hZP⟩:∃ ZP,SC.2[nn]=ZP:=⟨_,rfl⟩;rw [hZP]at hz3 hz4 hz5 hlast hzo c2;obtain⟨Q1,q1,rfl, -⟩:=hz4.form;obtain⟨Q2,q2,rfl, -⟩:=hz5.form
    have hw1:IntKind.i64.wrap ((nn:Int)+1 - 1)=(nn:Int):=by have:=HNN.out;rw [IntKind.wrap_i64];omega
    have hw2:IntKind.i64.wrap (nn:Int)=(nn:Int):=by have:=HNN.out;rw [IntKind.wrap_i64];omega
    have hix1:(nn:Int)<((nn+1:Nat):Int):=by omega
    have hix0:(0:Int)<=(nn:Int):=by omega
    obtain⟨U4,hU4⟩:∃ U4,wr.alloc (.cells #[.slice Q1 ZP.first.length q1,.slice Q2 ZP.ends.length q2,.bool ZP.empty] 73)=U4:=⟨_,rfl⟩
    have hb4:Below wr.heap.size wr U4:=by rw [<-hU4];exact(Below.refl _ _).alloc (Nat.le_refl _) _
    have hf4:BlkIs U4 wr.heap.size 73 #[.slice Q1 ZP.first.length q1,.slice Q2 ZP.ends.length q2,.bool ZP.empty]:=by rw [<-hU4];exact BlkIs.new _ _ _
    obtain⟨g0,g1,g2,_,_,_⟩:=three hf4
    have hVlt:∀ k,Mv K (.slice (some ⟨g,0,none⟩) (nn+1) cl) k=true->k<wr.heap.size:=fun k hk=>by
     unfold Mv at hk;simp only [Bool.or_eq_true,decide_eq_true_eq]at hk
     rcases hk with hk|hk
     ·have:=HK.out k hk;have:=hrep.nx.size;omega
     ·exact(World.ownsRow.lt hrep.own k hk).2
    have HLK:=zd (xzon M2 (Mv K (.slice (some ⟨g,0,none⟩) (nn+1) cl)) SC.1 ZP.ends ZP.first _ _ pb r f e m U4 (hrep.mka.step hb4) (hz5.sub (xzad _ hb4)) (hz4.sub (xzad _ hb4)) hcn1 hzo.2 hzo.1 (by rw [hcn2];omega)
     (fun k hk=>Nat.lt_of_lt_of_le (hrep.lt k hk) hb4.size) (fun k hk=>Nat.lt_of_lt_of_le (hVlt k hk) hb4.size))
    have HG:=zd (And.intro hrep (And.intro hb4 (And.intro hlast (show SC.2≠[]by intro e;rw [e]at hlt5;simp at hlt5))));clear hrep hp1 hp2 hbf hbx hfx hff hcn1 hcn2 hcn3 hcn4 hkp hsn hbd hVlt hcz hz1 hz2 hz3 hz4 hz5 hzo hb4 hf4 hlast f0 f1 f2
    go_wp2_with fail
    go_at_call 60
    refine HLK.out.mono ?_;rintro x u5 ⟨y,rfl,hnx5,hmk5⟩;have hr5:=(HG.out.1.step HG.out.2.1).turn hnx5 (fun k hk=>Nat.lt_of_lt_of_le (HG.out.1.lt k hk) (Nat.le_trans HG.out.2.1.size hnx5.size)) hmk5;have HF:=zd (And.intro hr5 (hr5.fin HG.out.2.2.2));clear hnx5 hmk5 hr5;go_wp2;go_ret;refine⟨M2,_,rfl,HF.out.1.nx,HF.out.1.lt,SC.1,SC.2,HSE.out,?_,HF.out.2.2⟩;rw [HG.out.2.2.1];exact HF.out.2.1
   ·have e1:(hi== -1)=false:=by simp [hh]
    have HF:=zd (And.intro hrep (hrep.fin (by intro e;rw [e]at hlt5;simp at hlt5)));clear hrep hp1 hp2 hbf hbx hfx hff hcn1 hcn2 hcn3 hcn4 hkp hsn hbd f0 f1 f2;go_wp2;go_ret;refine⟨M2,_,rfl,HF.out.1.nx,HF.out.1.lt,SC.1,SC.2,HSE.out,?_,HF.out.2.2⟩;exact HF.out.2.1
end
end Go.Proofs.Ythoaaginadjaoaa
