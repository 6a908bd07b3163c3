/-
 A COPY OF TREES WHILE IT IS MADE: what lies where, of no program: the rows that are ahead hold the old nodes; the nodes behind hold new Subs. No condition.
-/
import Derived.Maps.OwnIn
import Derived.Laws.IdiomCopy
import Derived.Test.YtdjpphjpnkfeiaaGreatDoorQG15
import Derived.Test.YtdjpphjpnkfeiaaGreatDoorQG16
import Derived.Test.YtdjpphjpnkfeiaaGreatDoorQG05
namespace Go.Proofs.YtdjpphjpnkfeiaaGreatDoor
section
open Go.RowKit
def NodePend (w W:World)(t:Tree)(b o:Nat):Prop:=∃ cs:List Value,Tree.At w t (.agg cs.toArray)/\cs.length=8/\W.rangeAt b o cs
def Nd (F:List (Nat×List Tree))(W:World)(t:Tree)(b o:Nat):Prop:=
 ∃ A c,W.rangeAt b o (reL t.kind t.set A t.sub.length c t.lo t.hi)/\t.sub.length<=c/\c<=9223372036854775807/\(t.sub≠[]->∃ b',A=some ⟨b',0,none⟩/\(b',t.sub)∈F)
def InSt (st:List Row)(t:Tree)(b i:Nat):Prop:=∃ r∈st,r.2.1=b/\∃ (j:Nat) (hj:j<r.1.length),r.1[j]=t/\r.2.2+j*8=i*8
def Fresh (w W:World)(b:Nat):Prop:=w.heap.size<=b/\∃ cs,BlkIs W b 55 cs
structure CloneF (w:World)(F:List (Nat×List Tree))(st:List Row)(W:World):Prop where
 low:Below w.heap.size w W
 rows:∀ r∈st,r.1≠[]->Fresh w W r.2.1/\(∃ q,r.2.2=q*8)/\∀ (j:Nat) (h:j<r.1.length),NodePend w W r.1[j] r.2.1 (r.2.2+j*8)
 apart:st.Pairwise fun r q=>r.1≠[]->q.1≠[]->r.2.1≠q.2.1
 all:∀ p∈F,Fresh w W p.1/\∀ (i:Nat) (h:i<p.2.length),InSt st p.2[i] p.1 i\/(Nd F W p.2[i] p.1 (i*8)/\∀ r∈st,r.1≠[]->r.2.1=p.1->i*8<r.2.2)
def CloneJ (w:World)(g:Nat)(l0:List Tree)(st:List Row)(W:World):Prop:=∃ F,(l0≠[]->(g,l0)∈F)/\CloneF w F st W
theorem Fresh.keep {w W W':World}{b:Nat}(h:Fresh w W b)(hk:∀ k cs,BlkIs W k 55 cs->BlkIs W' k 55 cs):Fresh w W' b:=by
 obtain⟨h1,cs,h2⟩:=h;exact⟨h1,cs,hk _ _ h2⟩
theorem Fresh.range {w W W':World}{b o:Nat}{ls:List Value}(h:Fresh w W b)(hk:∀ k cs,BlkIs W k 55 cs->BlkIs W' k 55 cs)(hr:W.rangeAt b o ls):W'.rangeAt b o ls:=fun j v hv=>by
 obtain⟨_,cs,h2⟩:=h;rw [(hk _ _ h2).cell,<-h2.cell];exact hr j v hv
theorem CloneF.keep {w W W':World}{F:List (Nat×List Tree)}{st:List Row}(h:CloneF w F st W)(hb:Below w.heap.size W W')(hk:∀ k cs,BlkIs W k 55 cs->BlkIs W' k 55 cs):CloneF w F st W' where
 low:=h.low.trans hb
 rows:=fun r hr hne=>by
  obtain⟨h1,h2,h3⟩:=h.rows r hr hne;refine⟨h1.keep hk,h2,fun j hj=>?_⟩;obtain⟨cs,g1,g2,g3⟩:=h3 j hj;exact⟨cs,g1,g2,h1.range hk g3⟩
 apart:=h.apart
 all:=fun p hp=>by
  obtain⟨h1,h2⟩:=h.all p hp;refine⟨h1.keep hk,fun i hi=>(h2 i hi).imp id fun⟨⟨A,c,g1,g2,g3,g4⟩,g5⟩=>⟨⟨A,c,h1.range hk g1,g2,g3,g4⟩,g5⟩⟩
theorem CloneF.pop {w W:World}{F:List (Nat×List Tree)}{b o:Nat}{st:List Row}(h:CloneF w F (([],b,o)::st) W):CloneF w F st W where
 low:=h.low
 rows:=fun r hr hne=>h.rows r (by simp [hr]) hne
 apart:=(List.pairwise_cons.1 h.apart).2
 all:=fun p hp=>by
  obtain⟨h1,h2⟩:=h.all p hp;refine⟨h1,fun i hi=>(h2 i hi).imp ?_ fun⟨g1,g2⟩=>⟨g1,fun r hr hne=>g2 r (by simp [hr]) hne⟩⟩;rintro⟨r,hr,g1,j,hj,g2⟩
  rcases List.mem_cons.1 hr with rfl|hr
  ·exact absurd hj (by simp)
  ·exact⟨r,hr,g1,j,hj,g2⟩
theorem CloneF.done {w W V:World}{F:List (Nat×List Tree)}(h:CloneF w F [] W)(hV:∀ k,w.heap.size<=k->V.heap[k]? =W.heap[k]?):∀ (t:Tree) (b o:Nat),w.heap.size<=b->Nd F W t b o->∃ cs:List Value,Tree.At V t (.agg cs.toArray)/\cs.length=8/\V.rangeAt b o cs:=by
 intro t
 induction t using Tree.ind with
 |h k m l lo hi ih=>
  rintro b o hb ⟨A,c,h1,h2,h3,h4⟩;refine⟨_,?_,rfl,fun j v hv=>(World.cell?_of_block (w:=W) (hV b hb)).trans (h1 j v hv)⟩;unfold Tree.At;refine⟨A,c,rfl,⟨h2,h3⟩,fun hne=>?_⟩;obtain⟨b',rfl,h5⟩:=h4 hne;refine⟨b',0,rfl,AllAt.mk l b' 0 fun i hi=>?_⟩;rw [Nat.zero_add]
  rcases(h.all _ h5).2 i hi with⟨r,hr,_⟩|⟨g,_⟩
  ·cases hr
  ·exact ih _ (List.getElem_mem hi) _ _ (h.all _ h5).1.1 g
theorem CloneJ.done {w W V:World}{g:Nat}{l0:List Tree}(h:CloneJ w g l0 [] W)(hne:l0≠[])(hV:∀ k,w.heap.size<=k->V.heap[k]? =W.heap[k]?):AllAt V l0 g 0:=by
 obtain⟨F,h1,h2⟩:=h
 refine AllAt.mk l0 g 0 fun i hi=>?_
 rw [Nat.zero_add]
 rcases(h2.all _ (h1 hne)).2 i hi with⟨r,hr,_⟩|⟨g,_⟩
 ·cases hr
 ·exact h2.done hV _ _ _ (h2.all _ (h1 hne)).1.1 g
end
section
open Go.RowKit
section
variable {F : Fence} {nF : Nat} {P : Program} {ops : Array Oper} {rest : List Oper} {op : Oper} {a : Act} {w : World} {Q : Exit → Act → World → Prop}
end
mutual
theorem xzvj:∀ t:Tree,t.deepN<=t.nodes
 | .node k m l lo hi=>by have:=deepL_nodes l;simp [Tree.deepN,Tree.nodes];omega
theorem deepL_nodes:∀ l:List Tree,deepL l<=nodesL l
 |[]=>Nat.le_refl _
 |t::r=>by have:=xzvj t;have:=deepL_nodes r;simp [deepL,nodesL];omega
end
attribute [local go_sem] Oper.semAt_some
theorem CloneJ.keep {w W W':World}{g:Nat}{l0:List Tree}{st:List Row}{B:Nat}(h:CloneJ w g l0 st W)(hl:Loose B W W')(hB:w.heap.size<=B):CloneJ w g l0 st W':=by
 obtain⟨F,h1,h2⟩:=h;exact⟨F,h1,h2.keep ⟨hl.os,hl.tape,hl.output,hl.size,fun k hk=>hl.low k (by omega) (by have:=h2.low.size;omega)⟩ fun k cs hx=>hl.blk hx (by decide)⟩
end
section
open Go.RowKit
theorem xznx:(Tryz.prog.info? 55).map (·.size)=some 8:=by kernel_rfl
theorem reL_all {k lo hi:Int}{m:Nat->Bool}{A:Option Addr}{n c:Nat}:(reL k m A n c lo hi).toArray.all (·.oneCell')=true:=by simp [reL,Value.oneCell']
theorem load_re {w:World}{g:Nat}{t:TypeId}{k lo hi:Int}{m:Nat->Bool}{A:Option Addr}{n c:Nat}(h:BlkIs w g t (reL k m A n c lo hi).toArray):(loadVar 55 ⟨g,0,none⟩).run Tryz.prog w=.ok (reV k m A n c lo hi) w:=
 run_loadVar_mid (P:=Tryz.prog) w g 0 55 (reL k m A n c lo hi) _ h.range Tryz.underlying55 rfl xznx
theorem yzer {w:World}{g:Nat}{t:TypeId}{k lo hi:Int}{m:Nat->Bool}{A:Option Addr}{n c:Nat}{cs:Array Value}(h:BlkIs w g t cs)(hs:cs.size=8):
 BlkIs (w.setCells g 0 (reL k m A n c lo hi)) g t (reL k m A n c lo hi).toArray:=h.fill (new:=(reL k m A n c lo hi).toArray) (by rw [hs];rfl)
def zeroL:List Value:=[.int .i64 0,.int .u64 0,.int .u64 0,.int .u64 0,.int .u64 0,.slice none 0 0,.int .i64 0,.int .i64 0]
theorem wd_zero (i:Nat):wd (fun _=>false) i=0:=by
 refine(xzxw (by decide) fun j _=>?_).symm
 simp
def Sub (V W:World):Prop:=∀ p v,V.cell? p=some v->W.cell? p=some v
theorem Sub.refl (W:World):Sub W W:=fun _ _ h=>h
theorem Sub.trans {A B C:World}(h:Sub A B)(k:Sub B C):Sub A C:=fun p v hv=>k p v (h p v hv)
theorem Tree.At.sub {V W:World}(hs:Sub V W):∀ (T:Tree) {v:Value},Tree.At V T v->Tree.At W T v:=by
 intro T
 induction T using Tree.ind with
 |h k m l lo hi ih=>
  intro v h;unfold Tree.At at h ⊢;obtain⟨A,c,rfl,hc,hl⟩:=h;refine⟨A,c,rfl,hc,fun hne=>?_⟩;obtain⟨b,o,rfl,ha⟩:=hl hne;refine⟨b,o,rfl,AllAt.mk l b o fun i hi=>?_⟩;obtain⟨cs,h1,h2,h3⟩:=AllAt.get l b o ha i hi;exact⟨cs,ih _ (List.getElem_mem hi) h1,h2,fun j v hv=>hs _ _ (h3 j v hv)⟩
theorem AllAt.sub {V W:World}(hs:Sub V W){l:List Tree}{b o:Nat}(h:AllAt V l b o):AllAt W l b o:=
 AllAt.mk l b o fun i hi=>by
  obtain⟨cs,h1,h2,h3⟩:=AllAt.get l b o h i hi;exact⟨cs,h1.sub hs,h2,fun j v hv=>hs _ _ (h3 j v hv)⟩
def less (W:World)(g:Nat):World:=W.putObj g (.deferred none)
theorem Tree.At.form {W:World}{T:Tree}{v:Value}(h:Tree.At W T v):∃ A n c,v=reV T.kind T.set A n c T.lo T.hi:=by
 cases T with
 |node k m l lo hi=>
  obtain⟨A,c,rfl,_⟩:=h.open;exact⟨A,l.length,c,rfl⟩
theorem AllAt.step {W W':World}{l:List Tree}{b o:Nat}(h:AllAt W l b o)(hb:Below W.heap.size W W'):AllAt W' l b o:=
 AllAt.mk l b o fun i hi=>by
  obtain⟨cs,h1,h2,h3⟩:=AllAt.get l b o h i hi;exact⟨cs,h1.step hb,h2,xzdf h3 (by intro e;subst e;simp at h2) hb⟩
end
section
open Go.RowKit
end
section
open Go.RowKit
def hide (W:World)(H:Nat->Bool):World:={W with heap:=W.heap.mapIdx fun k o=>if H k then .deferred none else o}
theorem xzel (W:World)(H:Nat->Bool)(k:Nat):(hide W H).heap[k]? =(W.heap[k]?).map fun o=>if H k then .deferred none else o:=by
 unfold hide;simp
theorem xzpt (W:World)(H:Nat->Bool):(hide W H).heap.size=W.heap.size:=by unfold hide;simp
theorem xzpu {W:World}{H:Nat->Bool}{p:Addr}{v:Value}(h:(hide W H).cell? p=some v):H p.block=false/\W.cell? p=some v:=by
 cases e:H p.block
 ·refine⟨rfl,?_⟩
  rw [<-h];refine(World.cell?_of_block (w:=W) ?_).symm;rw [xzel]
  simp [e]
 ·exfalso
  unfold World.cell? at h;rw [xzel,e]at h
  cases hb:W.heap[p.block]? with
  |none=>rw [hb]at h;cases h
  |some x=>rw [hb]at h;cases h
theorem xzea {W:World}{H:Nat->Bool}{p:Addr}{v:Value}(e:H p.block=false)(h:W.cell? p=some v):(hide W H).cell? p=some v:=by
 rw [<-h];refine World.cell?_of_block (w:=W) ?_;rw [xzel]
 simp [e]
theorem xzbf {W W':World}{H H':Nat->Bool}(h:∀ k,H k=false->k<W.heap.size->H' k=false/\W'.heap[k]? =W.heap[k]?):Sub (hide W H) (hide W' H'):=fun p v hv=>by
 obtain⟨h1,h2⟩:=xzpu hv;obtain⟨h3,h4⟩:=h _ h1 (World.block_lt_of_cell? W p h2);exact xzea h3 ((World.cell?_of_block (w:=W) h4).trans h2)
theorem xzba {W:World}{H:Nat->Bool}:Sub (hide W H) W:=fun _ _ hv=>(xzpu hv).2
def low (n k:Nat):Bool:=decide (k<n)
theorem low_no {n k:Nat}:low n k=false↔n<=k:=by unfold low;simp
end
section
open Go.RowKit
structure Nx (M M':Nat->Bool)(W W':World):Prop where
 os:W'.os=W.os
 tape:W'.tape=W.tape
 output:W'.output=W.output
 size:W.heap.size<=W'.heap.size
 block:∀ k,k<W.heap.size->M k=false->W'.heap[k]? =W.heap[k]?
 mine:∀ k,k<W.heap.size->M' k=M k
theorem Nx.refl (M:Nat->Bool)(W:World):Nx M M W W:=⟨rfl,rfl,rfl,Nat.le_refl _,fun _ _ _=>rfl,fun _ _=>rfl⟩
theorem Nx.trans {M1 M2 M3:Nat->Bool}{A B C:World}(h:Nx M1 M2 A B)(k:Nx M2 M3 B C):Nx M1 M3 A C:=
 ⟨k.os.trans h.os,k.tape.trans h.tape,k.output.trans h.output,Nat.le_trans h.size k.size,fun i hi hm=>(k.block i (Nat.lt_of_lt_of_le hi h.size) (by rw [h.mine i hi];exact hm)).trans (h.block i hi hm),
  fun i hi=>(k.mine i (Nat.lt_of_lt_of_le hi h.size)).trans (h.mine i hi)⟩
theorem Nx.below {M:Nat->Bool}{W W':World}(h:Below W.heap.size W W'):Nx M M W W':=⟨h.os,h.tape,h.output,h.size,fun k hk _=>h.block k hk,fun _ _=>rfl⟩
theorem Nx.grown {M:Nat->Bool}{W W':World}{row:Option Nat}(h:W.grownBy W' row)(hr:∀ k,row=some k->M k=true):Nx M M W W':=
 ⟨h.os,h.tape,h.output,h.size,fun k hk hm=>h.block k hk (fun e=>by rw [hr k e.symm]at hm;cases hm),fun _ _=>rfl⟩
theorem Nx.put {M:Nat->Bool}{W:World}{p:Addr}(hp:M p.block=true)(u:Value):Nx M M W (W.setCell p u):=
 ⟨rfl,rfl,rfl,by simp [World.setCell],fun k _ hm=>Below.heap_setCell _ _ _ _ (by intro e;rw [e,hp]at hm;cases hm),fun _ _=>rfl⟩
theorem Nx.more {M M' M2:Nat->Bool}{W W':World}(h:Nx M M' W W')(hm:∀ k,k<W.heap.size->M2 k=M' k):Nx M M2 W W':=
 ⟨h.os,h.tape,h.output,h.size,h.block,fun k hk=>(hm k hk).trans (h.mine k hk)⟩
def MK (M K:Nat->Bool)(k:Nat):Bool:=M k||K k
theorem MK_no {M K:Nat->Bool}{k:Nat}:MK M K k=false↔M k=false/\K k=false:=by unfold MK;simp
theorem Nx.sub {M M':Nat->Bool}{W W':World}(h:Nx M M' W W')(K:Nat->Bool):Sub (hide W (MK M K)) (hide W' (MK M' K)):=xzbf fun k h1 h2=>by
 rw [MK_no]at h1 ⊢;exact⟨⟨(h.mine k h2).trans h1.1,h1.2⟩,h.block k h2 h1.1⟩
theorem Nx.sub1 {M M':Nat->Bool}{W W':World}(h:Nx M M' W W'):Sub (hide W M) (hide W' M'):=xzbf fun k h1 h2=>⟨(h.mine k h2).trans h1,h.block k h2 h1⟩
theorem xzai {W W':World}(K:Nat->Bool)(h:Below W.heap.size W W'):Sub (hide W K) (hide W' K):=xzbf fun k h1 h2=>⟨h1,h.block k h2⟩
theorem IntsV.sub {V W:World}{l:List Int}{v:Value}(h:IntsV V l v)(hs:Sub V W):IntsV W l v:=by
 obtain⟨A,c,e,hc,hx⟩:=h;refine⟨A,c,e,hc,fun hne=>?_⟩;obtain⟨b,o,e2,hlt,hg⟩:=hx hne
 have hg2:=fun i hi=>hs _ _ (hg i hi)
 refine⟨b,o,e2,?_,hg2⟩;exact World.block_lt_of_cell? W ⟨b,o+0,none⟩ (hg2 0 (List.length_pos_iff.2 hne))
theorem IntsV.bare {W:World}{K:Nat->Bool}{l:List Int}{v:Value}(h:IntsV (hide W K) l v):IntsV W l v:=h.sub xzba
theorem RowI.show {B:Nat}{W:World}{K:Nat->Bool}{l:List Int}{v:Value}(h:RowI B W v l)(hK:∀ k,B<=k->K k=false):IntsV (hide W K) l v:=by
 obtain⟨A,c,e,hc,hx⟩:=h.ints;refine⟨A,c,e,hc,fun hne=>?_⟩;obtain⟨b,o,e2,hlt,hg⟩:=hx hne;have hb:=(World.ownsRow.lt h b (by rw [e,e2];rfl)).1;exact⟨b,o,e2,by rw [xzpt];exact hlt,fun i hi=>xzea (hK b hb) (hg i hi)⟩
def PrtV (W:World)(p:Prt)(v:Value):Prop:=∃ v1 v2,v=.agg #[v1,v2,.bool p.empty]/\IntsV W p.first v1/\IntsV W p.ends v2
theorem PrtV.sub {V W:World}{p:Prt}{v:Value}(h:PrtV V p v)(hs:Sub V W):PrtV W p v:=by
 obtain⟨v1,v2,e,h1,h2⟩:=h;exact⟨v1,v2,e,h1.sub hs,h2.sub hs⟩
def cellsS (ms:List (Nat->Bool)):List Value:=ms.flatMap fun m=>[.int .u64 (wd m 0:Nat),.int .u64 (wd m 1:Nat),.int .u64 (wd m 2:Nat),.int .u64 (wd m 3:Nat)]
structure MkI (M K:Nat->Bool)(W:World)(pb:Nat)(S:Mk)(r f e m vs vf:Value)(xs:List Value):Prop where
 blk:BlkIs W pb 117 #[vs,r,f,vf,e,m]
 mine:M pb=true
 own0:W.ownsRow 0 48 4 vs S.sets.length (cellsS S.sets)
 own3:W.ownsRow 0 26 1 vf S.follow.length xs
 far0:∀ k,vs.ownBlock=some k->M k=true/\k≠pb
 far3:∀ k,vf.ownBlock=some k->M k=true/\k≠pb/\vs.ownBlock≠some k
 rows:∀ (i:Nat) (h:i<S.follow.length),∃ x,xs[i]? =some x/\IntsV (hide W (MK M K)) S.follow[i] x
def MkAt (M K:Nat->Bool)(W:World)(pb:Nat)(S:Mk)(r f e m:Value):Prop:=∃ vs vf xs,MkI M K W pb S r f e m vs vf xs
theorem xzad {W W':World}{B:Nat}{t:TypeId}{z n:Nat}{v:Value}{xs:List Value}(h:W.ownsRow B t z v n xs)(hk:∀ k,v.ownBlock=some k->W'.heap[k]? =W.heap[k]?):W'.ownsRow B t z v n xs:=by
 refine⟨h.1,h.2.imp id ?_⟩;rintro⟨g,cap,cur,rfl,h1,h2,h3⟩;exact⟨g,cap,cur,rfl,h1,(hk g rfl).trans h2,h3⟩
theorem MkI.step {M K:Nat->Bool}{W W':World}{pb:Nat}{S:Mk}{r f e m vs vf:Value}{xs:List Value}(h:MkI M K W pb S r f e m vs vf xs)(hb:Below W.heap.size W W'):MkI M K W' pb S r f e m vs vf xs:=
 ⟨h.blk.step hb,h.mine,xzad h.own0 fun k hk=>hb.block k (World.ownsRow.lt h.own0 k hk).2,xzad h.own3 fun k hk=>hb.block k (World.ownsRow.lt h.own3 k hk).2,h.far0,h.far3,
  fun i hi=>by obtain⟨x,h1,h2⟩:=h.rows i hi;exact⟨x,h1,h2.sub (xzai _ hb)⟩⟩
theorem MkAt.step {M K:Nat->Bool}{W W':World}{pb:Nat}{S:Mk}{r f e m:Value}(h:MkAt M K W pb S r f e m)(hb:Below W.heap.size W W'):MkAt M K W' pb S r f e m:=by
 obtain⟨vs,vf,xs,h⟩:=h;exact⟨vs,vf,xs,h.step hb⟩
theorem MkI.place {M K:Nat->Bool}{W:World}{pb:Nat}{S:Mk}{r f e m vs vf:Value}{xs:List Value}(h:MkI M K W pb S r f e m vs vf xs)(hne:S.follow≠[]):
 ∃ g c,vf=.slice (some ⟨g,0,none⟩) S.follow.length c/\(S.follow.length<=c/\c<=9223372036854775807)/\M g=true/\g≠pb/\g<W.heap.size/\
  ∀ (i:Nat) (hi:i<S.follow.length),∃ A n c',W.cell? ⟨g,i,none⟩=some (.slice A n c')/\W.frozen? ⟨g,i,none⟩=false/\IntsV (hide W (MK M K)) S.follow[i] (.slice A n c'):=by
 have h0:=h.own3
 rcases h.own3.2 with⟨h1,h2⟩|⟨g,cap,cur,rfl,h2,h3,h4,h5,h6,h7⟩
 ·exact absurd (List.eq_nil_of_length_eq_zero h2) hne
 ·have hf:=h.far3 g rfl
  refine⟨g,cap,rfl,⟨h4,by unfold maxLen at h5;omega⟩,hf.1,hf.2.1,(Array.getElem?_eq_some_iff.1 h3).1,fun i hi=>?_⟩;obtain⟨x,hx1,hx2⟩:=h.rows i hi;have hc:=h0.cells (g:=g) rfl i x hx1;rw [Addr.add_lit,Nat.zero_add]at hc;obtain⟨A,c',rfl,hcc,hxx⟩:=hx2;exact⟨A,_,c',hc,World.ownsRow.frozenAt h0 i,A,c',rfl,hcc,hxx⟩
theorem MkI.put {M K:Nat->Bool}{W:World}{pb:Nat}{S:Mk}{r f e m vs:Value}{xs:List Value}{g c:Nat}(h:MkI M K W pb S r f e m vs (.slice (some ⟨g,0,none⟩) S.follow.length c) xs)(i:Nat){l:List Int}{v:Value}(hv:IntsV (hide W (MK M K)) l v):
 MkI M K (W.setCell ⟨g,i,none⟩ v) pb ⟨S.sets,S.follow.set i l⟩ r f e m vs (.slice (some ⟨g,0,none⟩) S.follow.length c) (xs.set i v):=by
 have hf:=h.far3 g rfl;have hsub:Sub (hide W (MK M K)) (hide (W.setCell ⟨g,i,none⟩ v) (MK M K)):=(Nx.put (M:=M) (p:=⟨g,i,none⟩) hf.1 v).sub K;refine⟨h.blk.far (p:=⟨g,i,none⟩) (Ne.symm hf.2.1) v,h.mine,xzad h.own0 fun k hk=>Below.heap_setCell _ _ _ _ (by intro e;exact hf.2.2 (by rw [hk];exact congrArg some e)),?_,h.far0,h.far3,fun j hj=>?_⟩
 ·have:=(World.ownsRow.stored h.own3 i v).1
  simp only [List.length_set]at this ⊢;exact this
 ·simp only [List.length_set]at hj
  obtain⟨x,h1,h2⟩:=h.rows j hj
  by_cases e:i=j
  ·subst e
   have hlt:i<xs.length:=(List.getElem?_eq_some_iff.1 h1).1;exact⟨v,by simp [hlt],by simpa using hv.sub hsub⟩
  ·exact⟨x,by rw [List.getElem?_set_ne e];exact h1,by simp only [List.getElem_set_ne e];exact h2.sub hsub⟩
end
section
open Go.RowKit
attribute [local irreducible] FreeW
def behindL (p:Int):List Int->List Int
 |[]=>[]
 |x::r=>if x=p then r else x::r
def RunAt (W:World)(l:List Int)(b o c:Nat):Prop:=(l.length<=c/\c<=9223372036854775807)/\∀ (i:Nat) (h:i<l.length),W.cell? ⟨b,o+i,none⟩=some (.int .i64 l[i])
theorem RunAt.ints {W:World}{l:List Int}{b o c:Nat}(h:RunAt W l b o c):IntsV W l (.slice (some ⟨b,o,none⟩) l.length c):=
 ⟨_,_,rfl,h.1,fun hne=>⟨b,o,rfl,World.block_lt_of_cell? W ⟨b,o+0,none⟩ (h.2 0 (List.length_pos_iff.2 hne)),h.2⟩⟩
theorem RunAt.sub {V W:World}{l:List Int}{b o c:Nat}(h:RunAt V l b o c)(hs:Sub V W):RunAt W l b o c:=⟨h.1,fun i hi=>hs _ _ (h.2 i hi)⟩
theorem RunAt.tail {W:World}{x:Int}{r:List Int}{b o c:Nat}(h:RunAt W (x::r) b o c):RunAt W r b (o+1) (c - 1):=by
 obtain⟨hc,hg⟩:=h;simp only [List.length_cons]at hc;refine⟨by omega,fun i hi=>?_⟩;have:=hg (i+1) (by simp;omega);rw [show o+(i+1)=o+1+i by omega]at this
 simpa using this
theorem RunAt.nil {W:World}{b o c:Nat}(h:c<=9223372036854775807):RunAt W [] b o c:=⟨⟨by simp,h⟩,fun i hi=>by simp at hi⟩
theorem IntsV.run {W:World}{l:List Int}{v:Value}(h:IntsV W l v)(hne:l≠[]):∃ b o c,v=.slice (some ⟨b,o,none⟩) l.length c/\RunAt W l b o c:=by
 obtain⟨A,c',e,hc,hx⟩:=h;obtain⟨b',o',e4,hlt,hg⟩:=hx hne;subst e4;exact⟨b',o',c',e,hc,hg⟩
def lenV:Value->Nat| .slice _ n _=>n|_=>0
set_option maxHeartbeats 2000000 in
theorem xzmi (x:Int)(r:List Int)(b o c:Nat)(p:Int)(w V:World)(hv:RunAt V (x::r) b o c)(hs:Sub V w):
 Calls Tryz.prog 129 #[.slice (some ⟨b,o,none⟩) (r.length+1) c,.int .i64 p] w fun e w'=>∃ b' o' c',e=.returned (.slice (some ⟨b',o',none⟩) (behindL p (x::r)).length c')/\RunAt V (behindL p (x::r)) b' o' c'/\w'=w:=by
 have ht:=hv.tail;have hcell:=hs _ _ (hv.2 0 (by simp));have HV:=zd (And.intro hv ht);have hc:=hv.1;simp only [List.length_cons,Nat.add_zero,List.getElem_cons_zero]at hc hcell;clear ht hv hs
 by_cases h:x=p
 ·have e1:(x==p)=true:=by simp [h]
  have HF:=zd (show behindL p (x::r)=r by simp [behindL,h]);clear h;rw [HF.out]
  by_cases hc1:c=1
  ·obtain rfl:r=[]:=List.eq_nil_of_length_eq_zero (by omega)
   subst hc1;simp only [List.length_nil]at*
   go_enter Tryz.func129,Tryz.ntmps129
   go_wp2;go_ret;exact⟨_,_,_,rfl,RunAt.nil (by decide),rfl⟩
  ·go_enter Tryz.func129,Tryz.ntmps129
   go_wp2;go_ret;exact⟨_,_,_,rfl,HV.out.2,rfl⟩
 ·have e1:(x==p)=false:=by simp [h]
  have HF:=zd (show behindL p (x::r)=x::r by simp [behindL,h]);clear h;rw [HF.out]
  go_enter Tryz.func129,Tryz.ntmps129
  go_wp2;go_ret;exact⟨_,_,_,rfl,HV.out.1,rfl⟩
theorem xzgb (n:Nat):(madeCells #[Value.int .i64 0] n).size=n:=by rw [size_madeCells]
theorem yzai (n:Nat)(h:n<=1099511627776)(w:World):(Instr.makeSlice 26 (.int .i64 (n:Nat)) (.int .i64 (n:Nat))).run Tryz.prog w=.ok (.slice (some ⟨w.heap.size,0,none⟩) n n) (w.alloc (.cells (madeCells #[.int .i64 0] n) 3)):=
 run_make_row' (P:=Tryz.prog) 26 3 (.int .i64 0) 8 Tryz.underlying26 xzdi rfl .i64 .i64 n (by omega) (by omega) w
theorem yzaj (l:List Int):∀ v∈l.map (Value.int .i64),v.oneCell'=true:=by
 intro v hv;obtain⟨i,_,rfl⟩:=List.mem_map.1 hv
 rfl
theorem BlkIs.setRow {w:World}{g:Nat}{t:TypeId}{cs new:Array Value}(h:BlkIs w g t cs):BlkIs (w.setRow g new) g t new:=by
 have:=setRow_heap w g cs new t (0,0) h;exact this
theorem xzny {B:Nat}{a w:World}(h:Below B a w){g:Nat}(hg:B<=g)(new:Array Value):Below B a (w.setRow g new):=
 h.trans ⟨rfl,rfl,rfl,by simp [World.setRow],fun k hk=>setRow_other w g k _ (by omega)⟩
end
end Go.Proofs.YtdjpphjpnkfeiaaGreatDoor
