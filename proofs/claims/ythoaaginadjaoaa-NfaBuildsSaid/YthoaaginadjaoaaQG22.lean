/-
 A MAKER WHOLE, BEHIND APPENDS; what it keeps while a part is made. No condition.
-/
import Derived.Test.YthoaaginadjaoaaQG21
namespace Go.Proofs.Ythoaaginadjaoaa
section
open Go.RowKit
section
variable {M K : Nat → Bool} {W U : World} {pb : Nat} {S : Mk} {R F : List Int} {E : List Bool} {em : Int} {r f e : Value}
theorem FkI.newR (h:FkI M K W pb S R F E em r f e)(hk:∀ k,k<W.heap.size->some k≠r.ownBlock->U.heap[k]? =W.heap[k]?){L':List Int}{x':Value}(hx:U.ownsRow 0 3 1 x' L'.length (L'.map (Value.int .i64)))
 (hMb:∀ k,M k=true->k<W.heap.size)(hv:x'.ownBlock=r.ownBlock\/ ∃ g,x'.ownBlock=some g/\W.heap.size<=g):
 FkI M (Mv K x') (U.setCell ⟨pb,1,none⟩ x') pb S L' F E em x' f e:=by
 have hM:∀ k,x'.ownBlock=some k->k<W.heap.size->K k=true/\M k=false:=fun k e1 e2=>by
  rcases hv with h1|⟨g,h1,h2⟩
  ·exact h.br k (h1▸e1)
  ·rw [e1]at h1;injection h1 with h1;omega
 have hnew:∀ k,x'.ownBlock=some k->r.ownBlock=some k\/W.heap.size<=k:=fun k e1=>by
  rcases hv with h1|⟨g,h1,h2⟩
  ·exact .inl (h1▸e1)
  ·rw [e1]at h1;injection h1 with h1;exact .inr (by omega)
 obtain⟨vs,vf,ws,hmk⟩:=h.mka;have hpb:=hmk.blk.lt
 have hMlt:∀ k,k<W.heap.size->M k=true->some k≠r.ownBlock:=fun k _ hm e=>by have:=(h.br k e.symm).2;rw [hm]at this;cases this
 have hUM:∀ k,k<W.heap.size->M k=true->k≠pb->(U.setCell ⟨pb,1,none⟩ x').heap[k]? =W.heap[k]? :=fun k h1 h2 h3=>(Below.heap_setCell _ _ _ _ h3).trans (hk k h1 (hMlt k h1 h2))
 have hold:∀ {y:Value} {n:Nat} {t:TypeId} {ys:List Value},W.ownsRow 0 t 1 y n ys->(∀ k,y.ownBlock=some k->M k=false/\some k≠r.ownBlock)->(U.setCell ⟨pb,1,none⟩ x').ownsRow 0 t 1 y n ys:=fun ho hy=>xzac ho fun k e=>by
  have hm:=hy k e;have hlt:=(World.ownsRow.lt ho k e).2;exact(Below.heap_setCell _ _ _ _ (fun e2=>by have e2:k=pb:=e2;rw [e2,hmk.mine]at hm;cases hm.1)).trans (hk k hlt hm.2)
 have hsub:Sub (hide W (MK M K)) (hide (U.setCell ⟨pb,1,none⟩ x') (MK M (Mv K x'))):=xzaw fun k h1 h2=>by
  rw [MK_no]at h1
  have hne:some k≠r.ownBlock:=fun e=>by have:=(h.br k e.symm).1;rw [h1.2]at this;cases this
  refine⟨MK_no.2 ⟨h1.1,Mv_no.2 ⟨h1.2,fun e=>?_⟩⟩,(Below.heap_setCell _ _ _ _ (fun e2=>by have e2:k=pb:=e2;rw [e2,hmk.mine]at h1;cases h1.1)).trans (hk k h2 hne)⟩
  rcases hnew k e with g|g
  ·exact hne g.symm
  ·omega
 refine⟨⟨vs,vf,ws,?_,hmk.mine,xzac hmk.own0 fun k e=>hUM k (World.ownsRow.lt hmk.own0 k e).2 (hmk.far0 k e).1 (hmk.far0 k e).2,xzac hmk.own3 fun k e=>hUM k (World.ownsRow.lt hmk.own3 k e).2 (hmk.far3 k e).1 (hmk.far3 k e).2.1,hmk.far0,hmk.far3,fun i hi=>?_⟩,xzac hx fun k e=>Below.heap_setCell _ _ _ _ (fun e2=>by have e2:k=pb:=e2;rcases hnew k e with g|g;(have:=(h.br k g).2;rw [e2,hmk.mine]at this;cases this);(omega)),hold h.rf fun k e=>⟨(h.bf k e).2,fun e3=>h.nrf k e3.symm e⟩,hold h.re fun k e=>⟨(h.be k e).2,fun e3=>h.nre k e3.symm e⟩,fun k e=>⟨Mv_me e,by rcases hnew k e with g|g;(exact(h.br k g).2);(rw [Bool.eq_false_iff];intro hm;have:=hMb k hm;omega)⟩,fun k e=>⟨xznf (h.bf k e).1,(h.bf k e).2⟩,fun k e=>⟨xznf (h.be k e).1,(h.be k e).2⟩,fun k e e2=>by rcases hnew k e with g|g;(exact h.nrf k g e2);(have:=(World.ownsRow.lt h.rf k e2).2;omega),fun k e e2=>by rcases hnew k e with g|g;(exact h.nre k g e2);(have:=(World.ownsRow.lt h.re k e2).2;omega),h.nfe⟩
 ·have h1:BlkIs U pb 51 _:=(hk pb hpb (hMlt pb hpb hmk.mine)).trans hmk.blk
  exact h1.put 1 x'
 ·obtain⟨x,h1,h2⟩:=hmk.rows i hi
  exact⟨x,h1,h2.sub hsub⟩
theorem FkI.newF (h:FkI M K W pb S R F E em r f e)(hk:∀ k,k<W.heap.size->some k≠f.ownBlock->U.heap[k]? =W.heap[k]?){L':List Int}{x':Value}(hx:U.ownsRow 0 3 1 x' L'.length (L'.map (Value.int .i64)))
 (hMb:∀ k,M k=true->k<W.heap.size)(hv:x'.ownBlock=f.ownBlock\/ ∃ g,x'.ownBlock=some g/\W.heap.size<=g):
 FkI M (Mv K x') (U.setCell ⟨pb,2,none⟩ x') pb S R L' E em r x' e:=by
 have hM:∀ k,x'.ownBlock=some k->k<W.heap.size->K k=true/\M k=false:=fun k e1 e2=>by
  rcases hv with h1|⟨g,h1,h2⟩
  ·exact h.bf k (h1▸e1)
  ·rw [e1]at h1;injection h1 with h1;omega
 have hnew:∀ k,x'.ownBlock=some k->f.ownBlock=some k\/W.heap.size<=k:=fun k e1=>by
  rcases hv with h1|⟨g,h1,h2⟩
  ·exact .inl (h1▸e1)
  ·rw [e1]at h1;injection h1 with h1;exact .inr (by omega)
 obtain⟨vs,vf,ws,hmk⟩:=h.mka;have hpb:=hmk.blk.lt
 have hMlt:∀ k,k<W.heap.size->M k=true->some k≠f.ownBlock:=fun k _ hm e=>by have:=(h.bf k e.symm).2;rw [hm]at this;cases this
 have hUM:∀ k,k<W.heap.size->M k=true->k≠pb->(U.setCell ⟨pb,2,none⟩ x').heap[k]? =W.heap[k]? :=fun k h1 h2 h3=>(Below.heap_setCell _ _ _ _ h3).trans (hk k h1 (hMlt k h1 h2))
 have hold:∀ {y:Value} {n:Nat} {t:TypeId} {ys:List Value},W.ownsRow 0 t 1 y n ys->(∀ k,y.ownBlock=some k->M k=false/\some k≠f.ownBlock)->(U.setCell ⟨pb,2,none⟩ x').ownsRow 0 t 1 y n ys:=fun ho hy=>xzac ho fun k e=>by
  have hm:=hy k e;have hlt:=(World.ownsRow.lt ho k e).2;exact(Below.heap_setCell _ _ _ _ (fun e2=>by have e2:k=pb:=e2;rw [e2,hmk.mine]at hm;cases hm.1)).trans (hk k hlt hm.2)
 have hsub:Sub (hide W (MK M K)) (hide (U.setCell ⟨pb,2,none⟩ x') (MK M (Mv K x'))):=xzaw fun k h1 h2=>by
  rw [MK_no]at h1
  have hne:some k≠f.ownBlock:=fun e=>by have:=(h.bf k e.symm).1;rw [h1.2]at this;cases this
  refine⟨MK_no.2 ⟨h1.1,Mv_no.2 ⟨h1.2,fun e=>?_⟩⟩,(Below.heap_setCell _ _ _ _ (fun e2=>by have e2:k=pb:=e2;rw [e2,hmk.mine]at h1;cases h1.1)).trans (hk k h2 hne)⟩
  rcases hnew k e with g|g
  ·exact hne g.symm
  ·omega
 refine⟨⟨vs,vf,ws,?_,hmk.mine,xzac hmk.own0 fun k e=>hUM k (World.ownsRow.lt hmk.own0 k e).2 (hmk.far0 k e).1 (hmk.far0 k e).2,xzac hmk.own3 fun k e=>hUM k (World.ownsRow.lt hmk.own3 k e).2 (hmk.far3 k e).1 (hmk.far3 k e).2.1,hmk.far0,hmk.far3,fun i hi=>?_⟩,hold h.rr fun k e=>⟨(h.br k e).2,fun e3=>h.nrf k e e3.symm⟩,xzac hx fun k e=>Below.heap_setCell _ _ _ _ (fun e2=>by have e2:k=pb:=e2;rcases hnew k e with g|g;(have:=(h.bf k g).2;rw [e2,hmk.mine]at this;cases this);(omega)),hold h.re fun k e=>⟨(h.be k e).2,fun e3=>h.nfe k e3.symm e⟩,fun k e=>⟨xznf (h.br k e).1,(h.br k e).2⟩,fun k e=>⟨Mv_me e,by rcases hnew k e with g|g;(exact(h.bf k g).2);(rw [Bool.eq_false_iff];intro hm;have:=hMb k hm;omega)⟩,fun k e=>⟨xznf (h.be k e).1,(h.be k e).2⟩,fun k e e2=>by rcases hnew k e2 with g|g;(exact h.nrf k e g);(have:=(World.ownsRow.lt h.rr k e).2;omega),h.nre,fun k e e2=>by rcases hnew k e with g|g;(exact h.nfe k g e2);(have:=(World.ownsRow.lt h.re k e2).2;omega)⟩
 ·have h1:BlkIs U pb 51 _:=(hk pb hpb (hMlt pb hpb hmk.mine)).trans hmk.blk
  exact h1.put 2 x'
 ·obtain⟨x,h1,h2⟩:=hmk.rows i hi
  exact⟨x,h1,h2.sub hsub⟩
theorem FkI.newE (h:FkI M K W pb S R F E em r f e)(hk:∀ k,k<W.heap.size->some k≠e.ownBlock->U.heap[k]? =W.heap[k]?){L':List Bool}{x':Value}(hx:U.ownsRow 0 4 1 x' L'.length (L'.map Value.bool))
 (hMb:∀ k,M k=true->k<W.heap.size)(hv:x'.ownBlock=e.ownBlock\/ ∃ g,x'.ownBlock=some g/\W.heap.size<=g):
 FkI M (Mv K x') (U.setCell ⟨pb,4,none⟩ x') pb S R F L' em r f x':=by
 have hM:∀ k,x'.ownBlock=some k->k<W.heap.size->K k=true/\M k=false:=fun k e1 e2=>by
  rcases hv with h1|⟨g,h1,h2⟩
  ·exact h.be k (h1▸e1)
  ·rw [e1]at h1;injection h1 with h1;omega
 have hnew:∀ k,x'.ownBlock=some k->e.ownBlock=some k\/W.heap.size<=k:=fun k e1=>by
  rcases hv with h1|⟨g,h1,h2⟩
  ·exact .inl (h1▸e1)
  ·rw [e1]at h1;injection h1 with h1;exact .inr (by omega)
 obtain⟨vs,vf,ws,hmk⟩:=h.mka;have hpb:=hmk.blk.lt
 have hMlt:∀ k,k<W.heap.size->M k=true->some k≠e.ownBlock:=fun k _ hm e=>by have:=(h.be k e.symm).2;rw [hm]at this;cases this
 have hUM:∀ k,k<W.heap.size->M k=true->k≠pb->(U.setCell ⟨pb,4,none⟩ x').heap[k]? =W.heap[k]? :=fun k h1 h2 h3=>(Below.heap_setCell _ _ _ _ h3).trans (hk k h1 (hMlt k h1 h2))
 have hold:∀ {y:Value} {n:Nat} {t:TypeId} {ys:List Value},W.ownsRow 0 t 1 y n ys->(∀ k,y.ownBlock=some k->M k=false/\some k≠e.ownBlock)->(U.setCell ⟨pb,4,none⟩ x').ownsRow 0 t 1 y n ys:=fun ho hy=>xzac ho fun k e=>by
  have hm:=hy k e;have hlt:=(World.ownsRow.lt ho k e).2;exact(Below.heap_setCell _ _ _ _ (fun e2=>by have e2:k=pb:=e2;rw [e2,hmk.mine]at hm;cases hm.1)).trans (hk k hlt hm.2)
 have hsub:Sub (hide W (MK M K)) (hide (U.setCell ⟨pb,4,none⟩ x') (MK M (Mv K x'))):=xzaw fun k h1 h2=>by
  rw [MK_no]at h1
  have hne:some k≠e.ownBlock:=fun e=>by have:=(h.be k e.symm).1;rw [h1.2]at this;cases this
  refine⟨MK_no.2 ⟨h1.1,Mv_no.2 ⟨h1.2,fun e=>?_⟩⟩,(Below.heap_setCell _ _ _ _ (fun e2=>by have e2:k=pb:=e2;rw [e2,hmk.mine]at h1;cases h1.1)).trans (hk k h2 hne)⟩
  rcases hnew k e with g|g
  ·exact hne g.symm
  ·omega
 refine⟨⟨vs,vf,ws,?_,hmk.mine,xzac hmk.own0 fun k e=>hUM k (World.ownsRow.lt hmk.own0 k e).2 (hmk.far0 k e).1 (hmk.far0 k e).2,xzac hmk.own3 fun k e=>hUM k (World.ownsRow.lt hmk.own3 k e).2 (hmk.far3 k e).1 (hmk.far3 k e).2.1,hmk.far0,hmk.far3,fun i hi=>?_⟩,hold h.rr fun k e=>⟨(h.br k e).2,fun e3=>h.nre k e e3.symm⟩,hold h.rf fun k e=>⟨(h.bf k e).2,fun e3=>h.nfe k e e3.symm⟩,xzac hx fun k e=>Below.heap_setCell _ _ _ _ (fun e2=>by have e2:k=pb:=e2;rcases hnew k e with g|g;(have:=(h.be k g).2;rw [e2,hmk.mine]at this;cases this);(omega)),fun k e=>⟨xznf (h.br k e).1,(h.br k e).2⟩,fun k e=>⟨xznf (h.bf k e).1,(h.bf k e).2⟩,fun k e=>⟨Mv_me e,by rcases hnew k e with g|g;(exact(h.be k g).2);(rw [Bool.eq_false_iff];intro hm;have:=hMb k hm;omega)⟩,h.nrf,fun k e e2=>by rcases hnew k e2 with g|g;(exact h.nre k e g);(have:=(World.ownsRow.lt h.rr k e).2;omega),fun k e e2=>by rcases hnew k e2 with g|g;(exact h.nfe k e g);(have:=(World.ownsRow.lt h.rf k e).2;omega)⟩
 ·have h1:BlkIs U pb 51 _:=(hk pb hpb (hMlt pb hpb hmk.mine)).trans hmk.blk
  exact h1.put 4 x'
 ·obtain⟨x,h1,h2⟩:=hmk.rows i hi
  exact⟨x,h1,h2.sub hsub⟩
theorem FkI.part {M':Nat->Bool}{S':Mk}(h:FkI M K W pb S R F E em r f e)(hn:Nx M M' W U)(hm:MkAt M' K U pb S' r f e (.int .i64 em)):FkI M' K U pb S' R F E em r f e:=
 ⟨hm,xzac h.rr fun k hk=>hn.block k (World.ownsRow.lt h.rr k hk).2 (h.br k hk).2,xzac h.rf fun k hk=>hn.block k (World.ownsRow.lt h.rf k hk).2 (h.bf k hk).2,xzac h.re fun k hk=>hn.block k (World.ownsRow.lt h.re k hk).2 (h.be k hk).2,
  fun k hk=>⟨(h.br k hk).1,(hn.mine k (World.ownsRow.lt h.rr k hk).2).trans (h.br k hk).2⟩,fun k hk=>⟨(h.bf k hk).1,(hn.mine k (World.ownsRow.lt h.rf k hk).2).trans (h.bf k hk).2⟩,fun k hk=>⟨(h.be k hk).1,(hn.mine k (World.ownsRow.lt h.re k hk).2).trans (h.be k hk).2⟩,
  h.nrf,h.nre,h.nfe⟩
theorem FkI.step (h:FkI M K W pb S R F E em r f e)(hb:Below W.heap.size W U):FkI M K U pb S R F E em r f e:=h.part (Nx.below hb) (h.mka.step hb)
theorem FkI.mark {g n c:Nat}(h:FkI M K W pb S R F E em r f (.slice (some ⟨g,0,none⟩) n c))(i:Nat):FkI M K (W.setCell ⟨g,i,none⟩ (.bool true)) pb S R F (E.set i true) em r f (.slice (some ⟨g,0,none⟩) n c):=by
 have hg:=h.be g rfl
 have hne:∀ {y:Value} {m:Nat} {t:TypeId} {ys:List Value},W.ownsRow 0 t 1 y m ys->(∀ k,y.ownBlock=some k->k≠g)->(W.setCell ⟨g,i,none⟩ (.bool true)).ownsRow 0 t 1 y m ys:=fun ho hy=>xzac ho fun k e=>Below.heap_setCell _ _ _ _ (hy k e)
 have hlen:n=E.length:=by
  rcases h.re.2 with⟨h1,_⟩|⟨_,_,_,h1,_⟩
  ·cases h1
  ·injection h1
 refine⟨h.mka.far hg.1 hg.2,hne h.rr fun k e e2=>h.nre k e (by rw [e2];rfl),hne h.rf fun k e e2=>h.nfe k e (by rw [e2];rfl),?_,h.br,h.bf,h.be,h.nrf,h.nre,h.nfe⟩;have h1:=h.re;rw [<-hlen]at h1;have:=(World.ownsRow.stored h1 i (.bool true)).1;rw [<-List.map_set]at this
 simpa [hlen]using this
end
end
section
open Go.RowKit
attribute [local irreducible] FreeW textFrame
structure FkB (B:Nat)(w:World)(M K:Nat->Bool)(W:World)(r f e:Value):Prop where
 low:Below B w W
 mm:∀ k,M k=true->B<=k/\k<W.heap.size
 kk:∀ k,K k=true->k<W.heap.size
 r0:∀ k,r.ownBlock=some k->B<=k
 f0:∀ k,f.ownBlock=some k->B<=k
 e0:∀ k,e.ownBlock=some k->B<=k
theorem FkB.step {B:Nat}{w W W':World}{M K:Nat->Bool}{r f e:Value}(h:FkB B w M K W r f e)(hb:Below W.heap.size W W')(hB:B<=W.heap.size):FkB B w M K W' r f e:=
 ⟨h.low.trans (hb.mono hB),fun k hk=>⟨(h.mm k hk).1,Nat.lt_of_lt_of_le (h.mm k hk).2 hb.size⟩,fun k hk=>Nat.lt_of_lt_of_le (h.kk k hk) hb.size,h.r0,h.f0,h.e0⟩
theorem Nx.low {M M':Nat->Bool}{W W':World}{B:Nat}(h:Nx M M' W W')(hB:B<=W.heap.size)(hm:∀ k,M k=true->B<=k):Below B W W':=
 ⟨h.os,h.tape,h.output,h.size,fun k hk=>h.block k (Nat.lt_of_lt_of_le hk hB) (by rw [Bool.eq_false_iff];intro e;have:=hm k e;omega)⟩
structure AddI (B:Nat)(w W:World)(M K:Nat->Bool)(pb:Nat)(S:Mk)(R F:List Int)(E:List Bool)(em:Int)(r f e:Value)(b:Nat)(p:Prt)(p1 p2:Value):Prop where
 fk:FkI M K W pb S R F E em r f e
 fb:FkB B w M K W r f e
 pt:BlkIs W b 73 #[p1,p2,.bool p.empty]
 h1:IntsV (hide W (MK M K)) p.first p1
 h2:IntsV (hide W (MK M K)) p.ends p2
 hb:B<=b/\K b=false/\M b=false
theorem AddI.step {B:Nat}{w W W':World}{M K:Nat->Bool}{pb:Nat}{S:Mk}{R F:List Int}{E:List Bool}{em:Int}{r f e:Value}{b:Nat}{p:Prt}{p1 p2:Value}(h:AddI B w W M K pb S R F E em r f e b p p1 p2)(hb:Below W.heap.size W W'):AddI B w W' M K pb S R F E em r f e b p p1 p2:=
 ⟨h.fk.step hb,h.fb.step hb (by have:=h.hb.1;have:=h.pt.lt;omega),h.pt.step hb,h.h1.sub (xzad _ hb),h.h2.sub (xzad _ hb),h.hb⟩
theorem AddI.next {B:Nat}{w W U:World}{M K:Nat->Bool}{pb:Nat}{S:Mk}{R F R' F':List Int}{E E':List Bool}{em:Int}{r f e r' f' e' y x':Value}{b i:Nat}{p:Prt}{p1 p2:Value}(h:AddI B w W M K pb S R F E em r f e b p p1 p2)
 (hg:W.grownBy U y.ownBlock)(hy:∀ k,y.ownBlock=some k->B<=k/\K k=true)(hv:x'.ownBlock=y.ownBlock\/ ∃ g,x'.ownBlock=some g/\W.heap.size<=g/\g<U.heap.size)
 (hf:FkI M (Mv K x') (U.setCell ⟨pb,i,none⟩ x') pb S R' F' E' em r' f' e')(hr:∀ k,r'.ownBlock=some k->B<=k)(hff:∀ k,f'.ownBlock=some k->B<=k)(he:∀ k,e'.ownBlock=some k->B<=k):
 AddI B w (U.setCell ⟨pb,i,none⟩ x') M (Mv K x') pb S R' F' E' em r' f' e' b p p1 p2:=by
 obtain⟨vs,vf,ws,hmk⟩:=h.fk.mka;have hpb:=hmk.mine;have hB:=(h.fb.mm pb hpb).1
 have hBW:B<=W.heap.size:=by have:=h.hb.1;have:=h.pt.lt;omega
 have hkeep:∀ k,k<W.heap.size->M k=false->K k=false->(U.setCell ⟨pb,i,none⟩ x').heap[k]? =W.heap[k]? /\Mv K x' k=false:=fun k h1 h2 h3=>by
  have hny:y.ownBlock≠some k:=fun e=>by have:=(hy k e).2;rw [h3]at this;cases this
  refine⟨(Below.heap_setCell _ _ _ _ (fun e2=>by have e2:k=pb:=e2;rw [e2,hpb]at h2;cases h2)).trans (hg.block k h1 (fun e=>hny e.symm)),Mv_no.2 ⟨h3,fun e=>?_⟩⟩
  rcases hv with g|⟨g,g1,g2,_⟩
  ·exact hny (g▸e)
  ·rw [e]at g1;injection g1 with g1;omega
 have hsub:Sub (hide W (MK M K)) (hide (U.setCell ⟨pb,i,none⟩ x') (MK M (Mv K x'))):=xzaw fun k h1 h2=>by
  rw [MK_no]at h1;have:=hkeep k h2 h1.1 h1.2;exact⟨MK_no.2 ⟨h1.1,this.2⟩,this.1⟩
 have hsz:(U.setCell ⟨pb,i,none⟩ x').heap.size=U.heap.size:=by simp [World.setCell]
 have hlow:Below B W (U.setCell ⟨pb,i,none⟩ x'):=⟨hg.os,hg.tape,hg.output,by rw [hsz];exact hg.size,fun k hk=>(Below.heap_setCell _ _ _ _ (by show k≠pb;omega)).trans (hg.block k (by omega) (fun e=>by have:=(hy k e.symm).1;omega))⟩;have hpk:=hkeep b h.pt.lt h.hb.2.2 h.hb.2.1;refine⟨hf,⟨h.fb.low.trans hlow,fun k hk=>⟨(h.fb.mm k hk).1,by rw [hsz];exact Nat.lt_of_lt_of_le (h.fb.mm k hk).2 hg.size⟩,fun k hk=>?_,hr,hff,he⟩,hpk.1.trans h.pt,h.h1.sub hsub,h.h2.sub hsub,h.hb.1,hpk.2,h.hb.2.2⟩;rw [hsz];unfold Mv at hk;simp only [Bool.or_eq_true,decide_eq_true_eq]at hk
 rcases hk with hk|hk
 ·exact Nat.lt_of_lt_of_le (h.fb.kk k hk) hg.size
 ·rcases hv with g|⟨g,g1,g2,g3⟩
  ·exact Nat.lt_of_lt_of_le (h.fb.kk k (hy k (g▸hk)).2) hg.size
  ·rw [hk]at g1;injection g1 with g1;omega
theorem AddI.rule {B:Nat}{w W:World}{M K:Nat->Bool}{pb:Nat}{S:Mk}{R F:List Int}{E:List Bool}{em:Int}{r f e:Value}{b:Nat}{p:Prt}{p1 p2:Value}(h:AddI B w W M K pb S R F E em r f e b p p1 p2)(x:Int)(hl:R.length+1<=1099511627776):
 ∃ r' U,(Builtin.append_ #[26,26] 26 #[r,.slice (some ⟨W.heap.size,0,none⟩) 1 1]).run Try.prog (W.alloc (.cells #[.int .i64 x] 3))=.ok r' U/\
  (∃ K',AddI B w (U.setCell ⟨pb,1,none⟩ r') M K' pb S (R++[x]) F E em r' f e b p p1 p2)/\(∃ A c,r'=.slice A (R.length+1) c)/\∀ k,M k=true->k<W.heap.size->U.heap[k]? =W.heap[k]? :=by
 have hbA:Below W.heap.size W (W.alloc (.cells #[.int .i64 x] 3)):=(Below.refl _ _).alloc (Nat.le_refl _) _;have hA:=h.step hbA;have hnew:=BlkIs.new W 3 #[.int .i64 x];obtain⟨r',U,hrun,k1,k2,k3,k4⟩:=xzhe hA.fk.rr (l:=[x]) (vb:=.slice (some ⟨W.heap.size,0,none⟩) 1 1) (IntsV.one (K:=fun _=>false) hnew rfl).bare (by simpa using hl)
 have hv:r'.ownBlock=r.ownBlock\/ ∃ g,r'.ownBlock=some g/\(W.alloc (.cells #[.int .i64 x] 3)).heap.size<=g/\g<U.heap.size:=by
  rcases k4 with g|g
  ·exact .inl g
  ·exact .inr ⟨_,g,Nat.le_refl _,(World.ownsRow.lt k1 _ g).2⟩
 have hfk:=hA.fk.newR (x':=r') (L':=R++[x]) (fun k hk hn=>k2.block k hk hn) (by simpa using k1) (fun k hk=>(hA.fb.mm k hk).2) (hv.imp id fun⟨g,g1,g2,_⟩=>⟨g,g1,g2⟩);obtain⟨A,c,rfl,_⟩:=xzak k1;refine⟨_,U,hrun,⟨_,hA.next (y:=r) k2 (fun k hk=>⟨hA.fb.r0 k hk,(hA.fk.br k hk).1⟩) hv hfk (fun k hk=>?_) hA.fb.f0 hA.fb.e0⟩,⟨A,c,rfl⟩,fun k hk hlt=>(k2.block k (Nat.lt_of_lt_of_le hlt hbA.size) (fun e=>by have:=(hA.fk.br k e.symm).2;rw [hk]at this;cases this)).trans (hbA.block k hlt)⟩
 rcases hv with g|⟨g,g1,g2,_⟩
 ·exact hA.fb.r0 k (g▸hk)
 ·rw [hk]at g1;injection g1 with g1
  have:=h.hb.1;have:=h.pt.lt;have:=hbA.size;omega
theorem AddI.end' {B:Nat}{w W:World}{M K:Nat->Bool}{pb:Nat}{S:Mk}{R F:List Int}{E:List Bool}{em:Int}{r f e:Value}{b:Nat}{p:Prt}{p1 p2:Value}(h:AddI B w W M K pb S R F E em r f e b p p1 p2)(hl:E.length+1<=1099511627776):
 ∃ e' U,(Builtin.append_ #[28,28] 28 #[e,.slice (some ⟨W.heap.size,0,none⟩) 1 1]).run Try.prog (W.alloc (.cells #[.bool false] 4))=.ok e' U/\
  (∃ K',AddI B w (U.setCell ⟨pb,4,none⟩ e') M K' pb S R F (E++[false]) em r f e' b p p1 p2)/\(∃ A c,e'=.slice A (E.length+1) c)/\∀ k,M k=true->k<W.heap.size->U.heap[k]? =W.heap[k]? :=by
 have hbA:Below W.heap.size W (W.alloc (.cells #[.bool false] 4)):=(Below.refl _ _).alloc (Nat.le_refl _) _;have hA:=h.step hbA;have hnew:=BlkIs.new W 4 #[.bool false];obtain⟨e',U,hrun,k1,k2,k3,k4⟩:=xzmr hA.fk.re (a:=⟨W.heap.size,0,none⟩) (c:=1) (x:=false) ((hnew.cell 0).trans rfl) hl
 have hv:e'.ownBlock=e.ownBlock\/ ∃ g,e'.ownBlock=some g/\(W.alloc (.cells #[.bool false] 4)).heap.size<=g/\g<U.heap.size:=by
  rcases k4 with g|g
  ·exact .inl g
  ·exact .inr ⟨_,g,Nat.le_refl _,(World.ownsRow.lt k1 _ g).2⟩
 have hfk:=hA.fk.newE (x':=e') (L':=E++[false]) (fun k hk hn=>k2.block k hk hn) (by simpa using k1) (fun k hk=>(hA.fb.mm k hk).2) (hv.imp id fun⟨g,g1,g2,_⟩=>⟨g,g1,g2⟩);obtain⟨A,c,rfl,_⟩:=xzak k1;refine⟨_,U,hrun,⟨_,hA.next (y:=e) k2 (fun k hk=>⟨hA.fb.e0 k hk,(hA.fk.be k hk).1⟩) hv hfk hA.fb.r0 hA.fb.f0 (fun k hk=>?_)⟩,⟨A,c,rfl⟩,fun k hk hlt=>(k2.block k (Nat.lt_of_lt_of_le hlt hbA.size) (fun e=>by have:=(hA.fk.be k e.symm).2;rw [hk]at this;cases this)).trans (hbA.block k hlt)⟩
 rcases hv with g|⟨g,g1,g2,_⟩
 ·exact hA.fb.e0 k (g▸hk)
 ·rw [hk]at g1;injection g1 with g1
  have:=h.hb.1;have:=h.pt.lt;have:=hbA.size;omega
theorem AddI.mark {B:Nat}{w W:World}{M K:Nat->Bool}{pb:Nat}{S:Mk}{R F:List Int}{E:List Bool}{em:Int}{r f:Value}{g n c b:Nat}{p:Prt}{p1 p2:Value}(h:AddI B w W M K pb S R F E em r f (.slice (some ⟨g,0,none⟩) n c) b p p1 p2)(i:Nat):
 AddI B w (W.setCell ⟨g,i,none⟩ (.bool true)) M K pb S R F (E.set i true) em r f (.slice (some ⟨g,0,none⟩) n c) b p p1 p2:=by
 have hg:=h.fk.be g rfl;have hs:=xzap (M:=M) (W:=W) (i:=i) hg.1 (.bool true)
 have hsz:(W.setCell ⟨g,i,none⟩ (.bool true)).heap.size=W.heap.size:=by simp [World.setCell]
 exact⟨h.fk.mark i,⟨h.fb.low.setCell (p:=⟨g,i,none⟩) (h.fb.e0 g rfl) _,fun k hk=>by rw [hsz];exact h.fb.mm k hk,fun k hk=>by rw [hsz];exact h.fb.kk k hk,h.fb.r0,h.fb.f0,h.fb.e0⟩,h.pt.far (p:=⟨g,i,none⟩) (fun e=>by have e:b=g:=e;have:=h.hb.2.1;rw [e,hg.1]at this;cases this) _,h.h1.sub hs,h.h2.sub hs,h.hb⟩
theorem AddI.grownF {B:Nat}{w W U:World}{M K:Nat->Bool}{pb:Nat}{S:Mk}{R F:List Int}{E:List Bool}{em:Int}{r f e:Value}{b:Nat}{p:Prt}{p1 p2:Value}(h:AddI B w W M K pb S R F E em r f e b p p1 p2)(hg:W.grownBy U f.ownBlock)
 (hf:U.ownsRow 0 3 1 f F.length (F.map (Value.int .i64))):AddI B w U M K pb S R F E em r f e b p p1 p2:=by
 have hsub:Sub (hide W (MK M K)) (hide U (MK M K)):=xzaw fun k h1 h2=>⟨h1,hg.block k h2 (fun e=>by have:=(h.fk.bf k e.symm).1;rw [MK_no]at h1;rw [h1.2]at this;cases this)⟩
 have hBW:B<=W.heap.size:=by have:=h.hb.1;have:=h.pt.lt;omega
 refine⟨⟨h.fk.mka.sub (fun k hk hm=>hg.block k hk (fun e=>by have:=(h.fk.bf k e.symm).2;rw [hm]at this;cases this)) hsub,xzac h.fk.rr fun k hk=>hg.block k (World.ownsRow.lt h.fk.rr k hk).2 (fun e=>h.fk.nrf k hk e.symm),hf,xzac h.fk.re fun k hk=>hg.block k (World.ownsRow.lt h.fk.re k hk).2 (fun e=>h.fk.nfe k e.symm hk),h.fk.br,h.fk.bf,h.fk.be,h.fk.nrf,h.fk.nre,h.fk.nfe⟩,
  ⟨h.fb.low.grown hg hBW fun k hk=>h.fb.f0 k hk,fun k hk=>⟨(h.fb.mm k hk).1,Nat.lt_of_lt_of_le (h.fb.mm k hk).2 hg.size⟩,fun k hk=>Nat.lt_of_lt_of_le (h.fb.kk k hk) hg.size,h.fb.r0,h.fb.f0,h.fb.e0⟩,(hg.block b h.pt.lt (fun e=>by have:=(h.fk.bf b e.symm).1;rw [h.hb.2.1]at this;cases this)).trans h.pt,h.h1.sub hsub,h.h2.sub hsub,h.hb⟩
theorem AddI.tell {B:Nat}{w W:World}{M K:Nat->Bool}{pb:Nat}{S:Mk}{R F:List Int}{E:List Bool}{em:Int}{r f e:Value}{b:Nat}{p:Prt}{p1 p2:Value}(h:AddI B w W M K pb S R F E em r f e b p p1 p2)(x:Int):
 FkI M K (W.setCell ⟨pb,5,none⟩ (.int .i64 x)) pb S R F E x r f e/\FkB B w M K (W.setCell ⟨pb,5,none⟩ (.int .i64 x)) r f e:=by
 obtain⟨vs,vf,ws,hmk⟩:=h.fk.mka
 have hsz:(W.setCell ⟨pb,5,none⟩ (.int .i64 x)).heap.size=W.heap.size:=by simp [World.setCell]
 have hne:∀ {y:Value} {t:TypeId} {z n:Nat} {ys:List Value},W.ownsRow 0 t z y n ys->(∀ k,y.ownBlock=some k->k≠pb)->(W.setCell ⟨pb,5,none⟩ (.int .i64 x)).ownsRow 0 t z y n ys:=fun ho hy=>xzac ho fun k e=>Below.heap_setCell _ _ _ _ (hy k e)
 have hpb:∀ k,M k=false->k≠pb:=fun k hk e=>by rw [e,hmk.mine]at hk;cases hk
 exact⟨⟨⟨vs,vf,ws,hmk.blk.put 5 _,hmk.mine,hne hmk.own0 fun k hk=>(hmk.far0 k hk).2,hne hmk.own3 fun k hk=>(hmk.far3 k hk).2.1,hmk.far0,hmk.far3,fun i hi=>by obtain⟨y,h1,h2⟩:=hmk.rows i hi;exact⟨y,h1,h2.sub ((Nx.put (M:=M) (p:=⟨pb,5,none⟩) hmk.mine _).sub K)⟩⟩,hne h.fk.rr fun k hk=>hpb k (h.fk.br k hk).2,hne h.fk.rf fun k hk=>hpb k (h.fk.bf k hk).2,hne h.fk.re fun k hk=>hpb k (h.fk.be k hk).2,h.fk.br,h.fk.bf,h.fk.be,h.fk.nrf,h.fk.nre,h.fk.nfe⟩,
  ⟨h.fb.low.setCell (p:=⟨pb,5,none⟩) (h.fb.mm pb hmk.mine).1 _,fun k hk=>by rw [hsz];exact h.fb.mm k hk,fun k hk=>by rw [hsz];exact h.fb.kk k hk,h.fb.r0,h.fb.f0,h.fb.e0⟩⟩
end
end Go.Proofs.Ythoaaginadjaoaa
