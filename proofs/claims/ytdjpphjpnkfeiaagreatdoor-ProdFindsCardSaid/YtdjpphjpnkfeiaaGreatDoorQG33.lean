/-
 A WALKER OF TWO AUTOMATA IN MEMORY: its block, the row of what was found, the map of what was seen; what abides where one of them is turned. No condition.
-/
import Derived.Test.YtdjpphjpnkfeiaaGreatDoorQG32
import Derived.Test.YtdjpphjpnkfeiaaGreatDoorQG06
import Derived.Test.YtdjpphjpnkfeiaaGreatDoorQG07
namespace Go.Proofs.YtdjpphjpnkfeiaaGreatDoor
section
open Go.RowKit
theorem xzil {u:World}{k g:Nat}{t t':TypeId}{cs cs':Array Value}(h:BlkIs u k t cs)(h':BlkIs u g t' cs')(ht:t≠t'):k≠g:=fun e=>by
 subst e;unfold BlkIs at h h';rw [h]at h'
 simp at h'
 exact ht h'.2
theorem xzcq {B n z k:Nat}{W:World}{v:Value}{xs:List Value}{e:TypeId}(h:W.ownsRow B e z v n xs)(hk:v.ownBlock=some k):∃ cur,BlkIs W k e cur:=by
 rcases h.2 with⟨rfl,_⟩|⟨g,cap,cur,rfl,h1,h2,_⟩
 ·simp [Value.ownBlock]at hk
 ·simp [Value.ownBlock]at hk
  subst hk;exact⟨cur,h2⟩
theorem xzbw {W W':World}{k:Nat}{t:TypeId}{cs:Array Value}{ob:Option Nat}(h:BlkIs W k t cs)(hg:W.grownBy W' ob)(hk:some k≠ob):BlkIs W' k t cs:=(hg.block k h.lt hk).trans h
structure Zt where
 s:SS
 tx:List Nat
 fr:Int
 by':Nat
def Zt.vals (z:Zt):List Value:=[.int .i16 z.s.1,.int .i16 z.s.2,.int .i64 z.fr,.int .u8 z.by']
def stepsZ (Z:List Zt):List Value:=Z.flatMap Zt.vals
def foundZ (Z:List Zt):List (SS×List Nat):=Z.map fun z=>(z.s,z.tx)
def seenZ (Z:List Zt)(s:SS):Bool:=noS s||decide (s∈Z.map Zt.s)
theorem xzwz (Z:List Zt):(foundZ Z).map Prod.fst=Z.map Zt.s:=by unfold foundZ;rw [List.map_map];rfl
theorem xzbk (Z:List Zt):(foundZ Z).length=Z.length:=by unfold foundZ;rw [List.length_map]
theorem xzxa (a b:List Zt):stepsZ (a++b)=stepsZ a++stepsZ b:=by simp [stepsZ]
theorem xzmt:∀ (Z:List Zt) (i:Nat) (h:i<Z.length) (k:Nat) (x:Value),(Z[i]).vals[k]? =some x->(stepsZ Z)[i*4+k]? =some x
 |[],i,h,_,_,_=>by simp at h
 |z::Z,0,_,k,x,hx=>by
  have hk:k<4:=by have:=(List.getElem?_eq_some_iff.1 hx).1;simpa [Zt.vals]using this
  show(z.vals++stepsZ Z)[0*4+k]? =some x
  rw [List.getElem?_append_left (by simp [Zt.vals];omega),Nat.zero_mul,Nat.zero_add];exact hx
 |z::Z,i+1,h,k,x,hx=>by
  show(z.vals++stepsZ Z)[(i+1)*4+k]? =some x
  rw [List.getElem?_append_right (by simp [Zt.vals];omega)];have:=xzmt Z i (by simpa using h) k x hx;rw [show(i+1)*4+k - z.vals.length=i*4+k by simp [Zt.vals];omega];exact this
theorem xzxb (z:Zt):∀ u∈z.vals,u.oneCell'=true:=by
 intro u hu;simp only [Zt.vals,List.mem_cons,List.not_mem_nil,or_false]at hu
 rcases hu with rfl|rfl|rfl|rfl<;>rfl
def ParZ (Z:List Zt):Prop:=∀ (i:Nat) (h:i<Z.length),(Z[i]).by'<256/\(((Z[i]).fr= -1/\(Z[i]).tx=[])\/ ∃ (j:Nat) (hj:j<i),(Z[i]).fr=(j:Int)/\(Z[i]).tx=(Z[j]'(by omega)).tx++[(Z[i]).by'])
theorem ParZ.snoc {Z:List Zt}(h:ParZ Z){z:Zt}(hb:z.by'<256)(hz:(z.fr= -1/\z.tx=[])\/ ∃ (j:Nat) (hj:j<Z.length),z.fr=(j:Int)/\z.tx=(Z[j]).tx++[z.by']):ParZ (Z++[z]):=by
 intro i hi
 by_cases e:i<Z.length
 ·obtain⟨h1,h2⟩:=h i e
  rw [List.getElem_append_left e];refine⟨h1,h2.imp id ?_⟩;rintro⟨j,hj,h3,h4⟩;exact⟨j,hj,h3,by rw [List.getElem_append_left (by omega)];exact h4⟩
 ·rw [List.length_append]at hi
  simp only [List.length_cons,List.length_nil]at hi
  have:i=Z.length:=by omega
  subst this;rw [List.getElem_append_right (Nat.le_refl _)];simp only [Nat.sub_self,List.getElem_cons_zero];refine⟨hb,hz.imp id ?_⟩;rintro⟨j,hj,h3,h4⟩;exact⟨j,hj,h3,by rw [List.getElem_append_left hj];exact h4⟩
theorem ParZ.tx256 {Z:List Zt}(h:ParZ Z):∀ (i:Nat) (hi:i<Z.length),∀ x∈(Z[i]).tx,x<256:=by
 intro i
 induction i using Nat.strongRecOn with
 |ind i ih=>
  intro hi x hx;obtain⟨h1,h2⟩:=h i hi
  rcases h2 with⟨_,h2⟩|⟨j,hj,_,h2⟩
  ·rw [h2]at hx;cases hx
  ·rw [h2]at hx
   rcases List.mem_append.1 hx with hx|hx
   ·exact ih j hj (by omega) x hx
   ·rw [List.mem_singleton]at hx;rw [hx];exact h1
structure WP where
 A:Df
 B:Df
 a1:Value
 a2:Value
 b1:Value
 b2:Value
 vy:Value
 M:Nat
 g:Nat
 n1:Nat
 w0:World
def wkF (p:WP)(vf:Value)(i:Nat):Value:=
 if i<259 then dfF p.A.of p.A.n p.a1 p.a2 i else
 if i<518 then dfF p.B.of p.B.n p.b1 p.b2 (i - 259)else
 if i=518 then p.vy else
 if i=519 then vf else .map (some p.M)
theorem wkF_put (p:WP)(v v':Value):putV (wkF p v) 519 v'=wkF p v':=by
 funext i
 unfold putV wkF
 by_cases h:i=519
 ·subst h;simp
 ·simp [h]
def bytesV (l:List Nat):List Value:=l.map fun(b:Nat)=>.int .u8 b
structure WkX (p:WP)(S:SS->Bool)(m:Nat)(Z:List Zt)(vb vf:Value)(W:World):Prop where
 below:Below p.w0.heap.size p.w0 W
 low:p.w0.heap.size<=p.n1/\p.n1<=p.g/\p.n1<=p.M/\p.n1<=W.heap.size
 blk:BlkF W p.g 99 521 (wkF p vb)
 map:ksMap W p.M m S
 fnd:W.ownsRow p.n1 103 4 vf Z.length (stepsZ Z)
 byt:W.ownsRow p.n1 5 1 p.vy (lbs p.A p.B).length (bytesV (lbs p.A p.B))
 ats:DfAt p.w0 p.A (.agg (dfC p.A.of p.A.n p.a1 p.a2))/\DfAt p.w0 p.B (.agg (dfC p.B.of p.B.n p.b1 p.b2))
structure KeepW (n1:Nat)(W W':World):Prop where
 size:W.heap.size<=W'.heap.size
 below:∀ B W0,B<=n1->Below B W0 W->Below B W0 W'
 blk:∀ b t cs,BlkIs W b t cs->t≠99->t≠103->BlkIs W' b t cs
theorem KeepW.refl (n1:Nat)(W:World):KeepW n1 W W:=⟨Nat.le_refl _,fun _ _ _ h=>h,fun _ _ _ h _ _=>h⟩
theorem KeepW.trans {n1:Nat}{W W' W'':World}(h:KeepW n1 W W')(h':KeepW n1 W' W''):KeepW n1 W W'':=
 ⟨Nat.le_trans h.size h'.size,fun B W0 hB hb=>h'.below B W0 hB (h.below B W0 hB hb),fun b t cs hb h1 h2=>h'.blk b t cs (h.blk b t cs hb h1 h2) h1 h2⟩
theorem KeepW.step {n1:Nat}{W W':World}(h:Below W.heap.size W W')(hn:n1<=W.heap.size):KeepW n1 W W':=
 ⟨h.size,fun _ _ hB hb=>hb.trans (h.mono (Nat.le_trans hB hn)),fun _ _ _ hb _ _=>hb.step h⟩
section
variable {p : WP} {S : SS → Bool} {m : Nat} {Z : List Zt} {vb vf : Value} {W W' : World}
theorem WkX.far (h:WkX p S m Z vb vf W)(hb:Below p.w0.heap.size p.w0 W')(hz:W.heap.size<=W'.heap.size)(hk:∀ k,p.n1<=k->k<W.heap.size->W'.heap[k]? =W.heap[k]?):WkX p S m Z vb vf W':=by
 have:=h.low;exact⟨hb,⟨h.low.1,h.low.2.1,h.low.2.2.1,by omega⟩,(hk _ h.low.2.1 (BlkIs.lt h.blk)).trans h.blk,h.map.heap (hk _ h.low.2.2.1 h.map.lt),xzau h.fnd fun k e=>hk k (World.ownsRow.lt h.fnd k e).1 (World.ownsRow.lt h.fnd k e).2,xzau h.byt fun k e=>hk k (World.ownsRow.lt h.byt k e).1 (World.ownsRow.lt h.byt k e).2,h.ats⟩
theorem WkX.step (h:WkX p S m Z vb vf W)(hb:Below W.heap.size W W'):WkX p S m Z vb vf W':=
 h.far (h.below.trans (hb.mono (by have:=h.low;omega))) hb.size fun k _ hk=>hb.block k hk
theorem WkX.asked (h:WkX p S m Z vb vf W){o:Option Nat}(ht:Tn o W W')(ho:∀ k,o=some k->p.w0.heap.size<=k/\k<p.n1):WkX p S m Z vb vf W':=
 h.far (ht.2.2 _ _ (by have:=h.low;omega) (fun k e=>(ho k e).1) h.below) ht.1 fun k h1 h2=>ht.2.1 k h2 fun e=>by have:=(ho k e).2;omega
theorem WkX.mapped (h:WkX p S m Z vb vf W)(hg:W.grownBy W' (some p.M)){S':SS->Bool}{m':Nat}(hm:ksMap W' p.M m' S'):WkX p S' m' Z vb vf W'/\KeepW p.n1 W W':=by
 have hne:∀ b t cs,BlkIs W b t cs->some b≠some p.M:=fun b t cs hb e=>h.map.ne hb (Option.some.inj e)
 have hbe:∀ B W0,B<=p.n1->Below B W0 W->Below B W0 W':=fun B W0 hB hb=>(Tn.grown hg).2.2 B W0 (by have:=h.low;omega) (fun k e=>by injection e with e;have:=h.low;omega) hb
 refine⟨⟨hbe _ _ h.low.1 h.below,⟨h.low.1,h.low.2.1,h.low.2.2.1,Nat.le_trans h.low.2.2.2 hg.size⟩,xzbw h.blk hg (hne _ _ _ h.blk),hm,h.fnd.kept hg (.inr fun e=>?_),h.byt.kept hg (.inr fun e=>?_),h.ats⟩,⟨hg.size,hbe,fun b t cs hb _ _=>xzbw hb hg (hne _ _ _ hb)⟩⟩
 ·obtain⟨cur,hc⟩:=xzcq h.fnd e
  exact hne _ _ _ hc rfl
 ·obtain⟨cur,hc⟩:=xzcq h.byt e
  exact hne _ _ _ hc rfl
theorem WkX.far_row (h:WkX p S m Z vb vf W):(∀ b t cs,BlkIs W b t cs->t≠103->some b≠vf.ownBlock)/\(∀ k,vf.ownBlock=some k->p.n1<=k)/\some p.M≠vf.ownBlock:=by
 refine⟨fun b t cs hb ht e=>?_,fun k e=>(World.ownsRow.lt h.fnd k e).1,fun e=>?_⟩
 ·obtain⟨cur,hc⟩:=xzcq h.fnd e.symm
  exact xzil hb hc ht rfl
 ·obtain⟨cur,hc⟩:=xzcq h.fnd e.symm
  exact h.map.ne hc rfl
theorem WkX.keepT (h:WkX p S m Z vb vf W)(ht:Tn vf.ownBlock W W'):KeepW p.n1 W W':=by
 obtain⟨h1,h2,_⟩:=h.far_row;exact⟨ht.1,fun B W0 hB hb=>ht.2.2 B W0 (by have:=h.low;omega) (fun k e=>by have:=h2 k e;omega) hb,fun b t cs hb _ h4=>(ht.2.1 b hb.lt fun e=>h1 b t cs hb h4 e.symm).trans hb⟩
theorem WkX.appended (h:WkX p S m Z vb vf W)(hg:W.grownBy W' vf.ownBlock)(hv:W'.ownsRow p.n1 103 4 vf Z.length (stepsZ Z)):WkX p S m Z vb vf W':=by
 obtain⟨h1,h2,h3⟩:=h.far_row;have hk:=h.keepT (Tn.grown hg);refine⟨hk.below _ _ h.low.1 h.below,⟨h.low.1,h.low.2.1,h.low.2.2.1,Nat.le_trans h.low.2.2.2 hg.size⟩,xzbw h.blk hg (h1 _ _ _ h.blk (by decide)),h.map.heap (hg.block _ h.map.lt h3),hv,h.byt.kept hg ?_,h.ats⟩
 by_cases e0:p.vy.ownBlock=none
 ·exact .inl e0
 ·obtain⟨k,hk⟩:=Option.ne_none_iff_exists'.1 e0
  obtain⟨cur,hc⟩:=xzcq h.byt hk
  exact .inr fun e=>h1 _ _ _ hc (by decide) (hk.symm.trans e)
theorem WkX.newRow (h:WkX p S m Z vb vf W){v':Value}{z:Zt}(hv:W.ownsRow p.n1 103 4 v' (Z.length+1) (stepsZ Z++z.vals)):WkX p S m (Z++[z]) vb v' W:=by
 refine⟨h.below,h.low,h.blk,h.map,?_,h.byt,h.ats⟩;rw [xzxa,List.length_append]
 have e:stepsZ [z]=z.vals:=by simp [stepsZ]
 rw [e];exact hv
theorem WkX.stored (h:WkX p S m Z vb vf W)(v':Value)(hv:vf=v'):WkX p S m Z v' v' (W.setCell ⟨p.g,519,none⟩ v')/\KeepW p.n1 W (W.setCell ⟨p.g,519,none⟩ v'):=by
 subst hv;have hw:=Tn.wrote (Wrote.cell W p.g 519 vf)
 have hk:∀ k,k<W.heap.size->k≠p.g->(W.setCell ⟨p.g,519,none⟩ vf).heap[k]? =W.heap[k]? :=fun k h1 h2=>hw.2.1 k h1 fun e=>h2 (Option.some.inj e).symm
 have hbe:∀ B W0,B<=p.n1->Below B W0 W->Below B W0 (W.setCell ⟨p.g,519,none⟩ vf):=fun B W0 hB hb=>hw.2.2 B W0 (by have:=h.low;omega) (fun k e=>by injection e with e;have:=h.low;omega) hb
 refine⟨⟨hbe _ _ h.low.1 h.below,⟨h.low.1,h.low.2.1,h.low.2.2.1,by rw [World.size_setCell];exact h.low.2.2.2⟩,by have:=h.blk.put 519 vf;rwa [wkF_put]at this,h.map.heap (hk _ h.map.lt (h.map.ne h.blk).symm),xzau h.fnd fun k e=>hk k (World.ownsRow.lt h.fnd k e).2 ?_,xzau h.byt fun k e=>hk k (World.ownsRow.lt h.byt k e).2 ?_,h.ats⟩,⟨hw.1,hbe,fun b t cs hb h1 _=>(hk b hb.lt (xzil hb h.blk h1)).trans hb⟩⟩
 ·obtain⟨cur,hc⟩:=xzcq h.fnd e
  exact xzil hc h.blk (by decide)
 ·obtain⟨cur,hc⟩:=xzcq h.byt e
  exact xzil hc h.blk (by decide)
end
abbrev Wk (p:WP)(Z:List Zt)(vf:Value)(W:World):Prop:=WkX p (seenZ Z) (Z.length+1) Z vf vf W
def meetZ (Z:List Zt)(z:Zt):List Zt:=if seenZ Z z.s=true then Z else Z++[z]
theorem xzjs (Z:List Zt)(z:Zt):foundZ (meetZ Z z)=meetQ noS (foundZ Z) (z.s,z.tx):=by
 unfold meetZ meetQ seenZ;rw [xzwz];simp only [Bool.or_eq_true,decide_eq_true_eq]
 split
 ·rfl
 ·unfold foundZ;rw [List.map_append];rfl
theorem xzxc (Z:List Zt)(z:Zt):seenZ (Z++[z])=fun s=>decide (s=(z.s.1,z.s.2))||seenZ Z s:=by
 funext s
 unfold seenZ;rw [List.map_append];simp only [List.map_cons,List.map_nil,List.mem_append,List.mem_singleton,Bool.decide_or];rw [<-Bool.or_assoc,Bool.or_comm]
theorem yzbn:(Tryz.prog.info? 103).map (fun i=>(i.zero,i.size,i.bytes))=some (some (.agg #[.int .i16 0,.int .i16 0,.int .i64 0,.int .u8 0]),4,24):=by kernel_rfl
theorem xzoi {B:Nat}{W:World}{v:Value}{Z:List Zt}(hown:W.ownsRow B 103 4 v Z.length (stepsZ Z)){z:Zt}{b c:Nat}(hnew:∀ k x,z.vals[k]? =some x->W.cell? ⟨b,k,none⟩=some x)(hl:Z.length+1<=1073741824)(hB:B<=W.heap.size):
 ∃ v' W',(Builtin.append_ #[97,97] 97 #[v,.slice (some ⟨b,0,none⟩) 1 c]).run Tryz.prog W=.ok v' W'/\W'.ownsRow B 103 4 v' (Z.length+1) (stepsZ Z++z.vals)/\W.grownBy W' v.ownBlock/\W'.ownsRow B 103 4 v Z.length (stepsZ Z)/\(v'.ownBlock=v.ownBlock\/v'.ownBlock=some W.heap.size):=by
 obtain⟨i0,hi0,hz0,hz1,hz2⟩:=info_parts yzbn
 have hnews:∀ j u,z.vals[j]? =some u->W.cell? ((⟨b,0,none⟩:Addr).add j)=some u:=fun j u hu=>by
  rw [Addr.add_lit,Nat.zero_add];exact hnew j u hu
 obtain⟨v',W',hr,h1,h2,_,h4⟩:=run_append_own_at (P:=Tryz.prog) (w:=W) B 97 97 103 i0 _ 4 24 Tryz.underlying97 hi0 hz0 hz1 hz2 rfl (by decide) v Z.length _ hown
  ⟨b,0,none⟩ 1 c z.vals rfl hnews (xzxb z) (by unfold maxLen;omega) (by omega) hB
 exact⟨v',W',hr,h1,h2,xzcd (P:=Tryz.prog) Tryz.underlying97 hi0 hz0 hz1 hz2 hown rfl hnews (xzxb z) (by unfold maxLen;omega) (by omega) hr,h4⟩
end
section
open Go.RowKit
attribute [local irreducible] FreeW textFrame
set_option maxRecDepth 20000 in
set_option maxHeartbeats 8000000 in
theorem xzgf (D:Df)(v:Value)(w:World)(h:DfAt w D v):
 Calls Tryz.prog 28 #[v] w fun e w'=>e=.returned (.int .i64 D.first)/\Below w.heap.size w w':=by
 obtain⟨An,cn,At,ct,rfl⟩:=xzal h;obtain⟨W1,hbx,hsz,hb1,hx1⟩:=xzbu D.of D.n (.slice An D.next.length cn) (.slice At D.tag.length ct) w;have hd1:=DfB.of hx1;obtain⟨c256,c257,c258⟩:=hd1.cells;have HB:=zd hb1;obtain⟨dc,hdc⟩:∃ dc,dfC D.of D.n (.slice An D.next.length cn) (.slice At D.tag.length ct)=dc:=⟨_,rfl⟩;rw [hdc]at hbx
 have hds:dc.size=259:=by rw [<-hdc];exact xzac _ _ _ _
 rw [hdc];clear hb1 hx1 hd1 hdc h
 by_cases h0:D.next.length=0
 ·have e1:decide ((D.next.length:Int)=0)=true:=by simp;exact List.length_eq_zero_iff.1 h0
  have e1b:((D.next.length:Int)==0)=true:=by simp;exact List.length_eq_zero_iff.1 h0
  have HF:=zd (show D.first= -1 by unfold Df.first;rw [if_pos h0]);clear h0
  go_enter Tryz.func28,Tryz.ntmps28
  go_wp2;go_ret;exact⟨by rw [HF.out];rfl,HB.out⟩
 ·have e1:decide ((D.next.length:Int)=0)=false:=by simp;intro e;rw [e]at h0;exact h0 rfl
  have e1b:((D.next.length:Int)==0)=false:=by simp;intro e;rw [e]at h0;exact h0 rfl
  have HF:=zd (show D.first=0 by unfold Df.first;rw [if_neg h0]);clear h0
  go_enter Tryz.func28,Tryz.ntmps28
  go_wp2;go_ret;exact⟨by rw [HF.out];rfl,HB.out⟩
set_option maxRecDepth 20000 in
set_option maxHeartbeats 8000000 in
theorem xzjt (D:Df)(a:Int)(v:Value)(w:World)(h:DfAt w D v)(ha:D.InS a)(ht:D.tag.length=D.next.length):
 Calls Tryz.prog 34 #[v,.int .i64 a] w fun e w'=>e=.returned (.int .i64 (D.tg a))/\Below w.heap.size w w':=by
 have HIT:=zd (show ∀ A c B c',v=.agg (dfC D.of D.n (.slice A D.next.length c) (.slice B D.tag.length c'))->IntsV w D.tag (.slice B D.tag.length c')from fun A c B c' e=>by
  obtain⟨vn,vt,e0,_,h2⟩:=h;rw [e0]at e
  injection e with e
  have e2:=congrArg (fun cs:Array Value=>cs[258]?) e;rw [xzef _ _ _ _ (by decide),xzef _ _ _ _ (by decide)]at e2;have e3:vt=.slice B D.tag.length c':=Option.some.inj e2
  rwa [e3]at h2)
 obtain⟨An,cn,At,ct,rfl⟩:=xzal h;obtain⟨W1,hbx,hsz,hb1,hx1⟩:=xzbu D.of D.n (.slice An D.next.length cn) (.slice At D.tag.length ct) w;have hd1:=DfB.of hx1;obtain⟨c256,c257,c258⟩:=hd1.cells;have HB:=zd hb1;have HI:=zd (HIT.out An cn At ct rfl);obtain⟨dc,hdc⟩:∃ dc,dfC D.of D.n (.slice An D.next.length cn) (.slice At D.tag.length ct)=dc:=⟨_,rfl⟩;rw [hdc]at hbx
 have hds:dc.size=259:=by rw [<-hdc];exact xzac _ _ _ _
 rw [hdc];clear hb1 hx1 hd1 hdc h HIT
 by_cases h0:a= -1
 ·subst h0
  have HF:=zd (show D.tg (-1)= -1 from rfl)
  go_enter Tryz.func34,Tryz.ntmps34
  go_wp2;go_ret;exact⟨by rw [HF.out];rfl,HB.out⟩
 ·obtain⟨n,rfl⟩:∃ n:Nat,a=(n:Int):=⟨a.toNat,by have:=ha.1;omega⟩
  have hn:n<D.tag.length:=by have:=ha.2;omega
  have e1:decide ((n:Int)<0)=false:=by rw [decide_eq_false_iff_not];omega
  have i1:decide ((n:Int)<(D.tag.length:Int))=true:=by simp;omega
  obtain⟨_,_,ev,_,hg⟩:=HI.out
  injection ev with eA _ _
  subst eA;obtain⟨bt,ot,rfl,hlt,hg⟩:=hg (by intro e;rw [e]at hn;simp at hn);have kt:=(HB.out.cell (p:=⟨bt,ot+n,none⟩) hlt).trans (hg n hn);have HF:=zd (show D.tg (n:Int)=D.tag[n]by unfold Df.tg;rw [if_neg h0,Int.toNat_natCast,List.getD_eq_getElem?_getD,List.getElem?_eq_getElem hn];rfl);clear hg h0 HI;generalize D.tag[n]=tx at*
  go_enter Tryz.func34,Tryz.ntmps34
  go_wp2;go_ret;exact⟨by rw [HF.out];rfl,HB.out⟩
def pairV (x:SS×List Nat):List Value:=[.int .i64 x.1.1,.int .i64 x.1.2,.string (txB x.2)]
def pairsV (F:List (SS×List Nat)):List Value:=F.flatMap pairV
theorem xzxd (a b:List (SS×List Nat)):pairsV (a++b)=pairsV a++pairsV b:=by simp [pairsV]
theorem xzmu:∀ (F:List (SS×List Nat)) (i:Nat) (h:i<F.length) (k:Nat) (x:Value),(pairV F[i])[k]? =some x->(pairsV F)[i*3+k]? =some x
 |[],i,h,_,_,_=>by simp at h
 |z::F,0,_,k,x,hx=>by
  have hk:k<3:=by have:=(List.getElem?_eq_some_iff.1 hx).1;simpa [pairV]using this
  show(pairV z++pairsV F)[0*3+k]? =some x
  rw [List.getElem?_append_left (by simp [pairV];omega),Nat.zero_mul,Nat.zero_add];exact hx
 |z::F,i+1,h,k,x,hx=>by
  show(pairV z++pairsV F)[(i+1)*3+k]? =some x
  rw [List.getElem?_append_right (by simp [pairV];omega)];have:=xzmu F i (by simpa using h) k x hx;rw [show(i+1)*3+k - (pairV z).length=i*3+k by simp [pairV];omega];exact this
theorem xzqq (x:SS×List Nat):∀ u∈pairV x,u.oneCell'=true:=by
 intro u hu;simp only [pairV,List.mem_cons,List.not_mem_nil,or_false]at hu
 rcases hu with rfl|rfl|rfl<;>rfl
def PairR (B:Nat)(W:World)(v:Value)(F:List (SS×List Nat)):Prop:=W.ownsRow B 42 3 v F.length (pairsV F)
theorem PairR.nil (B:Nat)(W:World):PairR B W (.slice none 0 0) []:=World.ownsRow_nil _ _ _ _
theorem PairR.heap {B:Nat}{W W':World}{v:Value}{F:List (SS×List Nat)}(h:PairR B W v F)(hk:∀ k,v.ownBlock=some k->W'.heap[k]? =W.heap[k]?):PairR B W' v F:=xzau h hk
theorem PairR.step {B:Nat}{W W':World}{v:Value}{F:List (SS×List Nat)}(h:PairR B W v F)(hb:Below W.heap.size W W'):PairR B W' v F:=h.heap fun k hk=>hb.block k (World.ownsRow.lt h k hk).2
theorem PairR.at {B:Nat}{W:World}{v:Value}{F:List (SS×List Nat)}(h:PairR B W v F){i:Nat}(hi:i<F.length):∃ b c,v=.slice (some ⟨b,0,none⟩) F.length c/\v.ownBlock=some b/\b<W.heap.size/\∀ k x,(pairV F[i])[k]? =some x->W.cell? ⟨b,i*3+k,none⟩=some x:=by
 rcases h.2 with⟨rfl,h0⟩|⟨g,cap,cur,rfl,h1,h2,h3⟩
 ·omega
 ·refine⟨g,cap,rfl,rfl,(Array.getElem?_eq_some_iff.1 h2).1,fun k x hx=>?_⟩
  have:=World.ownsRow.cells (g:=g) h rfl (i*3+k) _ (xzmu F i hi k x hx);rw [Addr.add_lit,Nat.zero_add]at this;exact this
theorem yzbo:(Tryz.prog.info? 42).map (fun i=>(i.zero,i.size,i.bytes))=some (some (.agg #[.int .i64 0,.int .i64 0,.string ⟨#[]⟩]),3,32):=by kernel_rfl
theorem PairR.push {B:Nat}{W:World}{v:Value}{F:List (SS×List Nat)}(hown:PairR B W v F){x:SS×List Nat}{b c:Nat}(hnew:BlkIs W b 42 (pairV x).toArray)(hl:F.length+1<=1073741824)(hB:B<=W.heap.size):
 ∃ v' W',(Builtin.append_ #[38,38] 38 #[v,.slice (some ⟨b,0,none⟩) 1 c]).run Tryz.prog W=.ok v' W'/\PairR B W' v' (F++[x])/\W.grownBy W' v.ownBlock/\PairR B W' v F/\(v'.ownBlock=v.ownBlock\/v'.ownBlock=some W.heap.size):=by
 obtain⟨i0,hi0,hz0,hz1,hz2⟩:=info_parts yzbo
 have hnews:∀ j u,(pairV x)[j]? =some u->W.cell? ((⟨b,0,none⟩:Addr).add j)=some u:=fun j u hu=>by
  rw [Addr.add_lit,Nat.zero_add,hnew.cell j,List.getElem?_toArray];exact hu
 obtain⟨v',W',hr,h1,h2,_,h4⟩:=run_append_own_at (P:=Tryz.prog) (w:=W) B 38 38 42 i0 _ 3 32 Tryz.underlying38 hi0 hz0 hz1 hz2 rfl (by decide) v F.length _ hown
  ⟨b,0,none⟩ 1 c (pairV x) rfl hnews (xzqq x) (by unfold maxLen;omega) (by omega) hB
 refine⟨v',W',hr,?_,h2,xzcd (P:=Tryz.prog) Tryz.underlying38 hi0 hz0 hz1 hz2 hown rfl hnews (xzqq x) (by unfold maxLen;omega) (by omega) hr,h4⟩;unfold PairR;rw [xzxd,List.length_append]
 have e:pairsV [x]=pairV x:=by simp [pairsV]
 rw [e];exact h1
end
section
open Go.RowKit
attribute [local irreducible] FreeW textFrame
theorem wrap16 {n:Int}(h: -32768<=n/\n<=32767):IntKind.i16.wrap n=n:=by
 simp only [IntKind.wrap,IntKind.bits,IntKind.signed]
 simp
 omega
set_option maxRecDepth 20000 in
set_option maxHeartbeats 8000000 in
theorem xzim (D:Df)(v:Value)(w:World)(h:DfAt w D v):
 Calls Tryz.prog 67 #[v] w fun e w'=>e=.returned (.int .i16 D.first)/\Below w.heap.size w w':=by
 have HAT:=zd h;obtain⟨An,cn,At,ct,rfl⟩:=xzal h;obtain⟨W1,hbx,hsz,hb1,hx1⟩:=xzat D.of D.n (.slice An D.next.length cn) (.slice At D.tag.length ct) w;have hd1:=DfB.of hx1;obtain⟨c256,c257,c258⟩:=hd1.cells;have HD:=zd (And.intro hd1 (And.intro hb1 (show w.heap.size<W1.heap.size by omega)));obtain⟨dc,hdc⟩:∃ dc,dfC D.of D.n (.slice An D.next.length cn) (.slice At D.tag.length ct)=dc:=⟨_,rfl⟩;rw [hdc]at hbx HAT
 have hds:dc.size=259:=by rw [<-hdc];exact xzac _ _ _ _
 rw [hdc];have HDC:=zd hdc;clear hb1 hx1 hd1 hdc
 by_cases h0:D.next.length=0
 ·have e1:decide ((D.next.length:Int)=0)=true:=by simp;exact List.length_eq_zero_iff.1 h0
  have e1b:((D.next.length:Int)==0)=true:=by simp;exact List.length_eq_zero_iff.1 h0
  have HF:=zd (show D.first= -1 by unfold Df.first;rw [if_pos h0]);clear h0
  go_enter Tryz.func67,Tryz.ntmps67
  go_wp2;go_ret;exact⟨by rw [HF.out];rfl,HD.out.2.1⟩
 ·have e1:decide ((D.next.length:Int)=0)=false:=by simp;intro e;rw [e]at h0;exact h0 rfl
  have e1b:((D.next.length:Int)==0)=false:=by simp;intro e;rw [e]at h0;exact h0 rfl
  have HF:=zd (show D.first=0 by unfold Df.first;rw [if_neg h0]);clear h0
  go_enter Tryz.func67,Tryz.ntmps67
  go_wp2;go_ret;exact⟨by rw [HF.out];rfl,HD.out.2.1⟩
set_option maxRecDepth 20000 in
set_option maxHeartbeats 8000000 in
theorem xzin (D:Df)(a:Int)(v:Value)(w:World)(h:DfAt w D v)(ha:D.InS a)(ht:D.tag.length=D.next.length):
 Calls Tryz.prog 40 #[v,.int .i16 a] w fun e w'=>e=.returned (.int .i64 (D.tg a))/\Below w.heap.size w w':=by
 have HIT:=zd (show ∀ A c B c',v=.agg (dfC D.of D.n (.slice A D.next.length c) (.slice B D.tag.length c'))->IntsV w D.tag (.slice B D.tag.length c')from fun A c B c' e=>by
  obtain⟨vn,vt,e0,_,h2⟩:=h;rw [e0]at e
  injection e with e
  have e2:=congrArg (fun cs:Array Value=>cs[258]?) e;rw [xzef _ _ _ _ (by decide),xzef _ _ _ _ (by decide)]at e2;have e3:vt=.slice B D.tag.length c':=Option.some.inj e2
  rwa [e3]at h2)
 have HAT:=zd h;obtain⟨An,cn,At,ct,rfl⟩:=xzal h;obtain⟨W1,hbx,hsz,hb1,hx1⟩:=xzat D.of D.n (.slice An D.next.length cn) (.slice At D.tag.length ct) w;have hd1:=DfB.of hx1;obtain⟨c256,c257,c258⟩:=hd1.cells;have HD:=zd (And.intro hd1 (And.intro hb1 (show w.heap.size<W1.heap.size by omega)));have HI:=zd (HIT.out An cn At ct rfl);obtain⟨dc,hdc⟩:∃ dc,dfC D.of D.n (.slice An D.next.length cn) (.slice At D.tag.length ct)=dc:=⟨_,rfl⟩;rw [hdc]at hbx HAT
 have hds:dc.size=259:=by rw [<-hdc];exact xzac _ _ _ _
 rw [hdc];have HDC:=zd hdc;clear hb1 hx1 hd1 hdc HIT
 by_cases h0:a= -1
 ·subst h0
  have HF:=zd (show D.tg (-1)= -1 from rfl)
  go_enter Tryz.func40,Tryz.ntmps40
  go_wp2;go_ret;exact⟨by rw [HF.out];rfl,HD.out.2.1⟩
 ·obtain⟨n,rfl⟩:∃ n:Nat,a=(n:Int):=⟨a.toNat,by have:=ha.1;omega⟩
  have hn:n<D.tag.length:=by have:=ha.2;omega
  have e1:decide ((n:Int)= -1)=false:=by rw [decide_eq_false_iff_not];exact h0
  have e1b:((n:Int)== -1)=false:=by rw [beq_eq_false_iff_ne];exact h0
  have i1:decide ((n:Int)<(D.tag.length:Int))=true:=by simp;omega
  obtain⟨_,_,ev,_,hg⟩:=HI.out
  injection ev with eA _ _
  subst eA;obtain⟨bt,ot,rfl,hlt,hg⟩:=hg (by intro e;rw [e]at hn;simp at hn);have kt:=(HD.out.2.1.cell (p:=⟨bt,ot+n,none⟩) hlt).trans (hg n hn);have HF:=zd (show D.tg (n:Int)=D.tag[n]by unfold Df.tg;rw [if_neg h0,Int.toNat_natCast,List.getD_eq_getElem?_getD,List.getElem?_eq_getElem hn];rfl);clear hg h0 HI;generalize D.tag[n]=tx at*
  go_enter Tryz.func40,Tryz.ntmps40
  go_wp2;go_ret;exact⟨by rw [HF.out];rfl,HD.out.2.1⟩
set_option maxRecDepth 20000 in
set_option maxHeartbeats 8000000 in
theorem xzfs (D:Df)(a:Int)(b:Nat)(v:Value)(w:World)(h:DfAt w D v)(hf:∀ b,b<256->D.of b<256)(ha:D.InS a)(hb:b<256)(hc:∀ r∈D.next,D.of b<r.length)(hw:WfN D.next)(hn:D.next.length<=32767):
 Calls Tryz.prog 51 #[v,.int .i16 a,.int .u8 (b:Nat)] w fun e w'=>e=.returned (.int .i16 (D.nx a b))/\Below w.heap.size w w':=by
 have HNX:=zd (nx_in hw a b)
 have HRN:=zd (show ∀ A c B c',v=.agg (dfC D.of D.n (.slice A D.next.length c) (.slice B D.tag.length c'))->RowsI w D.next (.slice A D.next.length c)from fun A c B c' e=>by
  obtain⟨vn,vt,e0,h2,_⟩:=h;rw [e0]at e
  injection e with e
  have e2:=congrArg (fun cs:Array Value=>cs[257]?) e;rw [xzef _ _ _ _ (by decide),xzef _ _ _ _ (by decide)]at e2;have e3:vn=.slice A D.next.length c:=Option.some.inj e2
  rwa [e3]at h2)
 have HAT:=zd h;obtain⟨An,cn,At,ct,rfl⟩:=xzal h;obtain⟨W1,hbx,hsz,hb1,hx1⟩:=xzat D.of D.n (.slice An D.next.length cn) (.slice At D.tag.length ct) w;have hd1:=DfB.of hx1;obtain⟨c256,c257,c258⟩:=hd1.cells;have HD:=zd (And.intro hd1 (And.intro hb1 (show w.heap.size<W1.heap.size by omega)));have HI:=zd (HRN.out An cn At ct rfl);have c0:=hd1.ofAt hb;have hfz:=BlkIs.frozen hx1 b;obtain⟨dc,hdc⟩:∃ dc,dfC D.of D.n (.slice An D.next.length cn) (.slice At D.tag.length ct)=dc:=⟨_,rfl⟩;rw [hdc]at hbx HAT
 have hds:dc.size=259:=by rw [<-hdc];exact xzac _ _ _ _
 rw [hdc];have HDC:=zd hdc;clear hb1 hx1 hd1 hdc HRN
 by_cases h0:a= -1
 ·subst h0
  have HF:=zd (show D.nx (-1) b= -1 from rfl)
  go_enter Tryz.func51,Tryz.ntmps51
  go_wp2;go_ret;exact⟨by rw [HF.out];rfl,HD.out.2.1⟩
 ·obtain⟨n,rfl⟩:∃ n:Nat,a=(n:Int):=⟨a.toNat,by have:=ha.1;omega⟩
  have hnl:n<D.next.length:=by have:=ha.2;omega
  have hcb:D.of b<D.next[n].length:=hc _ (List.getElem_mem hnl)
  have e1:decide ((n:Int)= -1)=false:=by rw [decide_eq_false_iff_not];exact h0
  have e1b:((n:Int)== -1)=false:=by rw [beq_eq_false_iff_ne];exact h0
  have i1:decide ((n:Int)<(D.next.length:Int))=true:=by simp;omega
  have i2:decide ((b:Int)<256)=true:=by simp;omega
  have i3:decide ((D.of b:Int)<(D.next[n].length:Int))=true:=by simp;omega
  obtain⟨_,_,ev,_,hg0⟩:=HI.out
  injection ev with eA _ _
  subst eA;obtain⟨bn,on,rfl,hlt,hg⟩:=hg0 (by intro e;rw [e]at hnl;simp at hnl);obtain⟨vr,hcell0,hvr⟩:=hg n hnl;obtain⟨Ar,cr,rfl,hcr,hgr⟩:=hvr;obtain⟨br,or,rfl,hltr,hgr2⟩:=hgr (by intro e;rw [e]at hcb;simp at hcb);have hcell:=(HD.out.2.1.cell (p:=⟨bn,on+n,none⟩) hlt).trans hcell0;have hcell2:=(HD.out.2.1.cell (p:=⟨br,or+D.of b,none⟩) hltr).trans (hgr2 (D.of b) hcb)
  have hN:D.nx (n:Int) b=D.next[n][D.of b]:=by
   unfold Df.nx Df.nxt;rw [if_neg h0,List.getD_eq_getElem?_getD,List.getD_eq_getElem?_getD,Int.toNat_natCast,List.getElem?_eq_getElem hnl,Option.getD_some,List.getElem?_eq_getElem hcb];rfl
  rw [hN]at HNX
  have hwr:IntKind.i16.wrap (D.next[n][D.of b])=D.next[n][D.of b]:=by
   have:=HNX.out;unfold Df.InS at this;exact wrap16 (by omega)
  have HF:=zd hN;have HHF:=zd (hf b hb);clear hg hgr hgr2 hcell0 h0 HI hN hf hc hg0 h HAT hw;generalize D.next[n][D.of b]=x at*;generalize D.next[n].length=nr at*;generalize D.next.length=nn at*;generalize D.of b=c at*
  go_enter Tryz.func51,Tryz.ntmps51
  go_wp2_with fail
  go_region
  go_wp2;go_ret;exact⟨by rw [HF.out];rfl,HD.out.2.1.drew⟩
set_option maxRecDepth 20000 in
set_option maxHeartbeats 8000000 in
theorem xzry (D:Df)(a:Int)(l:List Nat)(hl:∀ x∈l,x<256)(hll:l.length<=256)(A:Option Addr)(c:Nat)(v:Value)(w:World)(h:DfAt w D v)(hr:ByteRow w w.heap.size A l)(hf:∀ b,b<256->D.of b<256)(ha:D.InS a)
 (hc:∀ b,b<256->∀ r∈D.next,D.of b<r.length)(hw:WfN D.next)(hn:D.next.length<=32767):
 Calls Tryz.prog 41 #[v,.int .i16 a,.slice A l.length c] w fun e w'=>e=.returned (.tuple #[.int .u8 ((seekB D a l).getD 0:Nat),.bool (seekB D a l).isSome])/\Below w.heap.size w w':=by
 have HNX:=zd (fun(b:Nat) (hb:b<256) (u:World) (hu:Below w.heap.size w u)=>xzfs D a b v u (h.step hu) hf ha hb (hc b hb) hw hn);have HAT:=zd h;obtain⟨An,cn,At,ct,rfl⟩:=xzal h;obtain⟨W1,hbx,hsz,hb1,hx1⟩:=xzat D.of D.n (.slice An D.next.length cn) (.slice At D.tag.length ct) w;have hd1:=DfB.of hx1;obtain⟨c256,c257,c258⟩:=hd1.cells;have HD:=zd (And.intro hd1 (And.intro hb1 (show w.heap.size<W1.heap.size by omega)));have HLD:=zd (fun(u:World) (hu:DfB u w.heap.size D.of D.n (.slice An D.next.length cn) (.slice At D.tag.length ct))=>loadDf hu);obtain⟨dc,hdc⟩:∃ dc,dfC D.of D.n (.slice An D.next.length cn) (.slice At D.tag.length ct)=dc:=⟨_,rfl⟩;rw [hdc]at hbx HAT HLD HNX
 have hds:dc.size=259:=by rw [<-hdc];exact xzac _ _ _ _
 rw [hdc];have HDC:=zd hdc
 have HBY:=zd (fun(u:World) (hu:Below w.heap.size w u) (k x:Nat) (hx:l[k]? =some x)=>show ∃ b off,A=some ⟨b,off,none⟩/\u.cell? ⟨b,off+k,none⟩=some (.int .u8 (x:Int))from by
  obtain⟨b,off,e,hlt,hg⟩:=hr (by intro e;rw [e]at hx;simp at hx)
  exact⟨b,off,e,(hu.cell (p:=⟨b,off+k,none⟩) hlt).trans (hg k x hx)⟩)
 have HB0:=zd (And.intro HD.out.2.1 HD.out.1);have HLL:=zd (And.intro hl hll);clear hb1 hx1 hd1 hdc hf hc hw hn hr h HAT c256 c257 c258
 go_enter Tryz.func41,Tryz.ntmps41
 go_wp2;clear hbx hds
 go_loopw [12,9] (fun i _ wr=>∃ j:Nat,i=.int .i64 j/\j<=l.length/\Hid (Below w.heap.size w wr/\DfB wr w.heap.size D.of D.n (.slice An D.next.length cn) (.slice At D.tag.length ct)/\seekB D a l=seekB D a (l.drop j))) (fun i _ _=>l.length - (intOf i).toNat)
 case atStart=>exact⟨0,rfl,Nat.zero_le _,zd ⟨HB0.out.1,HB0.out.2,rfl⟩⟩
 case round=>
  obtain⟨j,rfl,hj,HH⟩:=hrel;obtain⟨wz,rfl⟩:∃ wz,wz=wr:=⟨_,rfl⟩
  by_cases hp:j<l.length
  ·have hk1:IntKind.i64.wrap ((j:Int)+1)=((j+1:Nat):Int):=by rw [IntKind.wrap_i64];have:=HLL.out.2;omega
   have hdl:decide ((j:Int)<(l.length:Int))=true:=by simp;omega
   obtain⟨x,hx⟩:∃ x,l[j]=x:=⟨_,rfl⟩
   have hxl:l[j]? =some x:=by rw [List.getElem?_eq_getElem hp,hx]
   have hx256:x<256:=HLL.out.1 x (by rw [<-hx];exact List.getElem_mem hp);obtain⟨bb,off,rfl,hcell⟩:=HBY.out wz HH.out.1 j x hxl;have HCA:=zd (HNX.out x hx256 wz HH.out.1);have hl0:=HLD.out wz HH.out.2.1
   have HSK:=zd (show seekB D a l=if decide (D.nx a x≠ -1)=true then some x else seekB D a (l.drop (j+1))by
    rw [HH.out.2.2,List.drop_eq_getElem_cons hp,hx];unfold seekB;rw [List.find?_cons]
    cases decide (D.nx a x≠ -1)<;>rfl)
   obtain⟨y,hy⟩:∃ y,D.nx a x=y:=⟨_,rfl⟩;rw [hy]at HCA HSK;clear hy hx hxl
   by_cases hq:y= -1
   ·have e1:((y:Int) != -1)=false:=by simp [hq]
    have e1b:decide (y= -1)=true:=by simp [hq]
    have HS2:=zd (show seekB D a l=seekB D a (l.drop (j+1))by rw [HSK.out,if_neg (by simp [hq])]);clear hq
    go_wp2_with(first|((with_reducible refine xzbt (.tmp 3) ?_ ?_ HH.out.2.1 ?_ ?_);exact rfl;exact rfl;kernel_rfl;rw [HDC.out])|(go_at_call 51;refine HCA.out.mono ?_;rintro e u1 ⟨rfl,hbu⟩;have HN:=zd (show Below w.heap.size w u1/\DfB u1 w.heap.size D.of D.n (.slice An D.next.length cn) (.slice At D.tag.length ct)from⟨HH.out.1.trans (hbu.mono HH.out.1.size),HH.out.2.1.step hbu⟩);clear hbu))
    exact⟨⟨j+1,rfl,hp,zd ⟨HN.out.1,HN.out.2,HS2.out⟩⟩,by simp [intOf];omega⟩
   ·have e1:((y:Int) != -1)=true:=by simp [hq]
    have e1b:decide (y= -1)=false:=by simp [hq]
    have HS2:=zd (show seekB D a l=some x by rw [HSK.out,if_pos (by simp [hq])]);clear hq
    go_wp2_with(first|((with_reducible refine xzbt (.tmp 3) ?_ ?_ HH.out.2.1 ?_ ?_);exact rfl;exact rfl;kernel_rfl;rw [HDC.out])|(go_at_call 51;refine HCA.out.mono ?_;rintro e u1 ⟨rfl,hbu⟩;have HN:=zd (show Below w.heap.size w u1 from HH.out.1.trans (hbu.mono HH.out.1.size));clear hbu))
    go_ret2
    exact⟨by rw [HS2.out];rfl,HN.out⟩
  ·have hdl:decide ((j:Int)<(l.length:Int))=false:=by simp;omega
   have HS2:=zd (show seekB D a l=none by
    rw [HH.out.2.2,List.drop_of_length_le (by omega)];rfl)
   go_wp2
   go_ret2
   exact⟨by rw [HS2.out];rfl,HH.out.1⟩
end
section
open Go.RowKit
attribute [local irreducible] FreeW textFrame
def BytR (B:Nat)(W:World)(v:Value)(l:List Nat):Prop:=W.ownsRow B 5 1 v l.length (bytesV l)
theorem BytR.step {B:Nat}{W W':World}{v:Value}{l:List Nat}(h:BytR B W v l)(hb:Below W.heap.size W W'):BytR B W' v l:=xzau h fun k hk=>hb.block k (World.ownsRow.lt h k hk).2
theorem BytR.low {B B':Nat}{W:World}{v:Value}{l:List Nat}(h:BytR B W v l)(hb:B'<=B):BytR B' W v l:=by
 refine⟨h.1,h.2.imp id ?_⟩;rintro⟨g,cap,cur,e,h1,h2⟩;exact⟨g,cap,cur,e,by omega,h2⟩
theorem yzcr:(Tryz.prog.info? 5).map (fun i=>(i.zero,i.size,i.bytes))=some (some (.int .u8 0),1,1):=by kernel_rfl
theorem BytR.push {B:Nat}{W:World}{v:Value}{l:List Nat}(h:BytR B W v l)(hB:B<=W.heap.size)(p:Nat)(hl:l.length+1<=1099511627776):
 ∃ v' W',(Builtin.append_ #[71,71] 71 #[v,.slice (some ⟨W.heap.size,0,none⟩) 1 1]).run Tryz.prog (W.alloc (.cells #[.int .u8 (p:Int)] 5))=.ok v' W'/\BytR B W' v' (l++[p])/\Below B W W':=by
 obtain⟨i0,hi0,hz0,hz1,hz2⟩:=info_parts yzcr;have hUB:Below W.heap.size W (W.alloc (.cells #[.int .u8 (p:Int)] 5)):=(Below.refl _ _).alloc (Nat.le_refl _) _;have h1:=h.step hUB;have hnew:=BlkIs.new W 5 #[.int .u8 (p:Int)]
 obtain⟨v',W',hr,hown,hgr,_,_⟩:=run_append_own_at (P:=Tryz.prog) (w:=W.alloc (.cells #[.int .u8 (p:Int)] 5)) B 71 71 5 i0 (.int .u8 0) 1 1 Tryz.underlying71 hi0 hz0 hz1 hz2 rfl (by decide) v l.length _ h1
  ⟨W.heap.size,0,none⟩ 1 1 [.int .u8 (p:Int)] rfl (fun j u hu=>by
   rw [Addr.add_lit,Nat.zero_add];have:=hnew.range j u (by simpa using hu)
   simpa using this) (by simp [Value.oneCell']) (by unfold maxLen;omega) (by omega) (by have:=hUB.size;omega)
 refine⟨v',W',hr,?_,(hUB.mono hB).grown hgr (by have:=hUB.size;omega) (fun q hq=>(World.ownsRow.lt h1 q hq).1)⟩;unfold BytR bytesV;rw [List.map_append,List.length_append];exact hown
def seenK (A B:Df)(j:Nat)(s:Int×Int):Bool:=(List.range j).any fun a=>decide (s=((A.of a:Int),(B.of a:Int)))
theorem xzmv (A B:Df)(j:Nat):seenK A B (j+1)=fun s=>decide (s=((A.of j:Int),(B.of j:Int)))||seenK A B j s:=by
 funext s
 unfold seenK;rw [List.range_succ,List.any_append,List.any_cons,List.any_nil,Bool.or_false,Bool.or_comm]
theorem xzqr (A B:Df)(j:Nat):seenK A B j ((A.of j:Int),(B.of j:Int))=old (kindS A B) j:=by
 rw [Bool.eq_iff_iff,old_iff];unfold seenK kindS;rw [List.any_eq_true]
 constructor
 ·rintro⟨a,ha,h⟩
  have e:=of_decide_eq_true h
  injection e with e1 e2
  exact⟨a,List.mem_range.1 ha,Prod.ext (by show A.of a=A.of j;omega) (by show B.of a=B.of j;omega)⟩
 ·rintro⟨a,ha,h⟩
  injection h with e1 e2
  exact⟨a,List.mem_range.2 ha,decide_eq_true (by rw [e1,e2])⟩
theorem xzxe {A B:Df}{j:Nat}(h:old (kindS A B) j=true):seenK A B (j+1)=seenK A B j:=by
 rw [xzmv]
 funext s
 by_cases e:s=((A.of j:Int),(B.of j:Int))
 ·rw [e,xzqr,h];simp
 ·rw [decide_eq_false e,Bool.false_or]
theorem xzkw {a:Nat}(h:a<256):kbIn (a:Int):=⟨by omega,by omega⟩
set_option maxRecDepth 20000 in
set_option maxHeartbeats 8000000 in
theorem xzxf (A B:Df)(va vb:Value)(w:World)(ha:DfAt w A va)(hb:DfAt w B vb)(hfa:∀ b,b<256->A.of b<256)(hfb:∀ b,b<256->B.of b<256):
 Calls Tryz.prog 48 #[va,vb] w fun e w'=>∃ v,e=.returned v/\BytR w.heap.size w' v (lbs A B)/\Below w.heap.size w w':=by
 obtain⟨An,cn,At,ct,rfl⟩:=xzal ha;obtain⟨Bn,dn,Bt,dt,rfl⟩:=xzal hb;obtain⟨W1,hbx,hsz,hb1,hx1⟩:=xzat A.of A.n (.slice An A.next.length cn) (.slice At A.tag.length ct) w;obtain⟨W2,hbx2,hsz2,hb2,hx2⟩:=xzat B.of B.n (.slice Bn B.next.length dn) (.slice Bt B.tag.length dt) W1
 have h2s:W2.heap.size=w.heap.size+2:=by omega
 have hd1:=(DfB.of hx1).step hb2;have hd2:=DfB.of hx2;rw [hsz]at hd2;have HB:=zd (And.intro (hb1.trans (hb2.mono (by omega))) (And.intro hd1 hd2));obtain⟨da,hda⟩:∃ dc,dfC A.of A.n (.slice An A.next.length cn) (.slice At A.tag.length ct)=dc:=⟨_,rfl⟩;obtain⟨db,hdb⟩:∃ dc,dfC B.of B.n (.slice Bn B.next.length dn) (.slice Bt B.tag.length dt)=dc:=⟨_,rfl⟩;rw [hda]at hbx;rw [hdb]at hbx2
 have hdsa:da.size=259:=by rw [<-hda];exact xzac _ _ _ _
 have hdsb:db.size=259:=by rw [<-hdb];exact xzac _ _ _ _
 rw [hda,hdb];obtain⟨oa,hoa⟩:∃ oa,ofC A.of=oa:=⟨_,rfl⟩;have HOA:=zd hoa;have HIX:=zd (fun(j:Nat) (hj:j<256) (u:World)=>idxO A.of hj u);rw [hoa]at HIX;have HF:=zd (And.intro hfa hfb);have HS2:=zd h2s;have HM0:=zd (kbMap.start W2);have HR0:=zd (fun(W:World)=>show BytR (w.heap.size+3) W (.slice none 0 0) []from World.ownsRow_nil _ _ _ _);clear hb1 hx1 hd1 hda hb2 hx2 hd2 hdb hoa ha hb hfa hfb
 have h3s:(W2.alloc (.map #[] 0)).heap.size=w.heap.size+3:=by simp [h2s]
 have H3S:=zd h3s;have HB3:=zd (show Below W2.heap.size W2 (W2.alloc (.map #[] 0))from(Below.refl _ _).alloc (Nat.le_refl _) _);clear h3s;have hmm:=run_makeMap (P:=Tryz.prog) 132 W2
 go_enter Tryz.func48,Tryz.ntmps48
 go_wp2_with((with_reducible refine xzga rfl (.tmp 12) ?_ ?_ (HB.out.2.1.step HB3.out) ?_);exact rfl;exact rfl;rw [HOA.out])
 clear hbx hbx2 hdsa hdsb hmm
 go_loopw [14,5,7,8,9] (fun i v _ _ _ wr=>∃ j:Nat,i=.int .i64 j/\j<=256/\Hid (Below w.heap.size w wr/\DfB wr (w.heap.size+1) B.of B.n (.slice Bn B.next.length dn) (.slice Bt B.tag.length dt)/\kbMap wr (w.heap.size+1+1) j (seenK A B j)/\BytR (w.heap.size+3) wr v (leastQ (kindS A B) j)/\w.heap.size+3<=wr.heap.size)) (fun i _ _ _ _ _=>256 - (intOf i).toNat)
 case atStart=>
  refine⟨0,rfl,by decide,zd ⟨HB.out.1.trans (HB3.out.mono (by omega)),HB.out.2.2.step HB3.out,?_,HR0.out _,by rw [H3S.out];omega⟩⟩;have:=HM0.out;rw [h2s]at this;exact this
 case round=>
  obtain⟨j,rfl,hj,HH⟩:=hrel;obtain⟨wz,rfl⟩:∃ wz,wz=wr:=⟨_,rfl⟩
  by_cases hp:j<256
  ·have hk1:IntKind.i64.wrap ((j:Int)+1)=((j+1:Nat):Int):=by rw [IntKind.wrap_i64];omega
   have hk2:IntKind.u8.wrap (j:Int)=(j:Int):=by rw [IntKind.wrap_u8];omega
   have hdl:decide ((j:Int)<256)=true:=by simp;omega
   have hix:=HIX.out j hp wz;have hcb:=HH.out.2.1.ofAt hp;have hAo:=HF.out.1 j hp;have hBo:=HF.out.2 j hp;obtain⟨U,hU⟩:∃ U,wz.alloc (.cells #[.int .u8 (A.of j:Int),.int .u8 (B.of j:Int)] 133)=U:=⟨_,rfl⟩
   have hbU:Below wz.heap.size wz U:=by rw [<-hU];exact(Below.refl _ _).alloc (Nat.le_refl _) _
   have hmU:kbMap U (w.heap.size+1+1) j (seenK A B j):=HH.out.2.2.1.heap (hbU.block _ HH.out.2.2.1.lt);have hlk:=hmU.look (xzkw hAo) (xzkw hBo);rw [xzqr]at hlk
   have k0:U.cell? ⟨wz.heap.size,0,none⟩=some (.int .u8 (A.of j:Int)):=by rw [<-hU];exact(BlkIs.new wz 133 #[.int .u8 (A.of j:Int),.int .u8 (B.of j:Int)]).cell 0
   have k1:U.cell? ⟨wz.heap.size,1,none⟩=some (.int .u8 (B.of j:Int)):=by rw [<-hU];exact(BlkIs.new wz 133 #[.int .u8 (A.of j:Int),.int .u8 (B.of j:Int)]).cell 1
   have HY:=zd (show Below w.heap.size w U/\DfB U (w.heap.size+1) B.of B.n (.slice Bn B.next.length dn) (.slice Bt B.tag.length dt)/\kbMap U (w.heap.size+1+1) j (seenK A B j)/\BytR (w.heap.size+3) U u5 (leastQ (kindS A B) j)/\w.heap.size+3<=U.heap.size from
    ⟨HH.out.1.trans (hbU.mono HH.out.1.size),HH.out.2.1.step hbU,hmU,HH.out.2.2.2.1.step hbU,by have:=hbU.size;have:=HH.out.2.2.2.2;omega⟩)
   have HAB:=zd (And.intro hAo hBo);clear hbU hmU hAo hBo
   cases hold:old (kindS A B) j with
   |true=>
    rw [hold]at hlk;have HN:=zd (show leastQ (kindS A B) (j+1)=leastQ (kindS A B) j/\seenK A B (j+1)=seenK A B j from⟨by rw [xzfo,hold,if_pos rfl,List.append_nil],xzxe hold⟩);clear hold;go_wp2;refine⟨⟨j+1,rfl,hp,zd ⟨HY.out.1,HY.out.2.1,?_,?_,HY.out.2.2.2.2⟩⟩,by simp [intOf];omega⟩
    ·rw [HN.out.2]
     obtain⟨D,h1,h2⟩:=HY.out.2.2.1;exact⟨D,h1.mono (Nat.le_succ _),h2⟩
    ·rw [HN.out.1];exact HY.out.2.2.2.1
   |false=>
    rw [hold]at hlk;have HN:=zd (show leastQ (kindS A B) (j+1)=leastQ (kindS A B) j++[j]from by rw [xzfo,hold,if_neg (by decide)]);clear hold;obtain⟨w1,hrun1,hm1,hg1⟩:=HY.out.2.2.1.put (xzkw HAB.out.1) (xzkw HAB.out.2) (by unfold maxLen;omega)
    have hnb:∀ b t cs,BlkIs U b t cs->some b≠some (w.heap.size+1+1):=fun b t cs hb e=>HY.out.2.2.1.ne hb (Option.some.inj e)
    have hr1:BytR (w.heap.size+3) w1 u5 (leastQ (kindS A B) j):=HY.out.2.2.2.1.kept hg1 (.inr fun e=>by
     obtain⟨cur,hc⟩:=xzcq HY.out.2.2.2.1 e
     exact hnb _ _ _ hc rfl)
    have hb1:Below w.heap.size w w1:=(Tn.grown hg1).2.2 _ _ HY.out.1.size (fun k e=>by injection e with e;omega) HY.out.1
    have hd1:DfB w1 (w.heap.size+1) B.of B.n (.slice Bn B.next.length dn) (.slice Bt B.tag.length dt):=fun k hk=>(xzbi (hg1.block _ (World.block_lt_of_cell? U ⟨w.heap.size+1,k,none⟩ (HY.out.2.1 k hk)) (fun e=>by injection e with e;have e2:w.heap.size+1=w.heap.size+1+1:=e;omega))).trans (HY.out.2.1 k hk)
    have hs1:=hg1.size
    have hll:(leastQ (kindS A B) j).length<=j:=by unfold leastQ;have:=List.length_filter_le (fun x=> !old (kindS A B) x) (List.range j);rw [List.length_range]at this;exact this
    obtain⟨v',W',hrun2,hr2,hb2⟩:=hr1.push (by have:=HY.out.2.2.2.2;omega) j (by omega)
    have HZ:=zd (show Below w.heap.size w W'/\DfB W' (w.heap.size+1) B.of B.n (.slice Bn B.next.length dn) (.slice Bt B.tag.length dt)/\kbMap W' (w.heap.size+1+1) (j+1) (seenK A B (j+1))/\BytR (w.heap.size+3) W' v' (leastQ (kindS A B) j++[j])/\w.heap.size+3<=W'.heap.size from
     ⟨hb1.trans (hb2.mono (by omega)),fun k hk=>(hb2.cell (p:=⟨w.heap.size+1,k,none⟩) (by show w.heap.size+1<w.heap.size+3;omega)).trans (hd1 k hk),by rw [xzmv];exact hm1.heap (hb2.block _ (by show w.heap.size+1+1<w.heap.size+3;omega)),hr2,by have:=hb2.size;have:=HY.out.2.2.2.2;omega⟩)
    clear hm1 hg1 hnb hr1 hb1 hd1 hs1 hll hr2 hb2
    go_wp2_with(at_builtin;refine xzan rfl (.tmp 31) (.tmp 34) 71 71 rfl rfl rfl hrun2 ?_)
    exact⟨⟨j+1,rfl,hp,zd ⟨HZ.out.1,HZ.out.2.1,HZ.out.2.2.1,by rw [HN.out];exact HZ.out.2.2.2.1,HZ.out.2.2.2.2⟩⟩,by simp [intOf];omega⟩
  ·have hdl:decide ((j:Int)<256)=false:=by simp;omega
   obtain rfl:j=256:=by omega
   go_wp2;go_ret;exact⟨_,rfl,HH.out.2.2.2.1.low (by omega),HH.out.1⟩
end
end Go.Proofs.YtdjpphjpnkfeiaaGreatDoor
