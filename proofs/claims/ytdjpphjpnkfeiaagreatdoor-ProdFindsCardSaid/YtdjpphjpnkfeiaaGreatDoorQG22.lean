/-
 WHAT nfa's add ANSWERS, its places' rules: the first loop. Condition: at most 2^20 places.
-/
import Derived.Test.YtdjpphjpnkfeiaaGreatDoorQG21
import Derived.Test.YtdjpphjpnkfeiaaGreatDoorQG12
namespace Go.Proofs.YtdjpphjpnkfeiaaGreatDoor
section
open Go.RowKit
attribute [local irreducible] FreeW textFrame
structure FkB (B:Nat)(w:World)(M K:Nat->Bool)(W:World)(r f e:Value):Prop where
 low:Below B w W
 mm:∀ k,M k=true->B<=k/\k<W.heap.size
 kk:∀ k,K k=true->k<W.heap.size
 r0:∀ k,r.ownBlock=some k->B<=k
 f0:∀ k,f.ownBlock=some k->B<=k
 e0:∀ k,e.ownBlock=some k->B<=k
theorem FkB.step {B:Nat}{w W W':World}{M K:Nat->Bool}{r f e:Value}(h:FkB B w M K W r f e)(hb:Below W.heap.size W W')(hB:B<=W.heap.size):FkB B w M K W' r f e:=
 ⟨h.low.trans (hb.mono hB),fun k hk=>⟨(h.mm k hk).1,Nat.lt_of_lt_of_le (h.mm k hk).2 hb.size⟩,fun k hk=>Nat.lt_of_lt_of_le (h.kk k hk) hb.size,h.r0,h.f0,h.e0⟩
theorem Nx.low {M M':Nat->Bool}{W W':World}{B:Nat}(h:Nx M M' W W')(hB:B<=W.heap.size)(hm:∀ k,M k=true->B<=k):Below B W W':=
 ⟨h.os,h.tape,h.output,h.size,fun k hk=>h.block k (Nat.lt_of_lt_of_le hk hB) (by rw [Bool.eq_false_iff];intro e;have:=hm k e;omega)⟩
structure AddI (B:Nat)(w W:World)(M K:Nat->Bool)(pb:Nat)(S:Mk)(R F:List Int)(E:List Bool)(em:Int)(r f e:Value)(b:Nat)(p:Prt)(p1 p2:Value):Prop where
 fk:FkI M K W pb S R F E em r f e
 fb:FkB B w M K W r f e
 pt:BlkIs W b 149 #[p1,p2,.bool p.empty]
 h1:IntsV (hide W (MK M K)) p.first p1
 h2:IntsV (hide W (MK M K)) p.ends p2
 hb:B<=b/\K b=false/\M b=false
theorem AddI.step {B:Nat}{w W W':World}{M K:Nat->Bool}{pb:Nat}{S:Mk}{R F:List Int}{E:List Bool}{em:Int}{r f e:Value}{b:Nat}{p:Prt}{p1 p2:Value}(h:AddI B w W M K pb S R F E em r f e b p p1 p2)(hb:Below W.heap.size W W'):AddI B w W' M K pb S R F E em r f e b p p1 p2:=
 ⟨h.fk.step hb,h.fb.step hb (by have:=h.hb.1;have:=h.pt.lt;omega),h.pt.step hb,h.h1.sub (xzai _ hb),h.h2.sub (xzai _ hb),h.hb⟩
theorem AddI.next {B:Nat}{w W U:World}{M K:Nat->Bool}{pb:Nat}{S:Mk}{R F R' F':List Int}{E E':List Bool}{em:Int}{r f e r' f' e' y x':Value}{b i:Nat}{p:Prt}{p1 p2:Value}(h:AddI B w W M K pb S R F E em r f e b p p1 p2)
 (hg:W.grownBy U y.ownBlock)(hy:∀ k,y.ownBlock=some k->B<=k/\K k=true)(hv:x'.ownBlock=y.ownBlock\/ ∃ g,x'.ownBlock=some g/\W.heap.size<=g/\g<U.heap.size)
 (hf:FkI M (Mv K x') (U.setCell ⟨pb,i,none⟩ x') pb S R' F' E' em r' f' e')(hr:∀ k,r'.ownBlock=some k->B<=k)(hff:∀ k,f'.ownBlock=some k->B<=k)(he:∀ k,e'.ownBlock=some k->B<=k):
 AddI B w (U.setCell ⟨pb,i,none⟩ x') M (Mv K x') pb S R' F' E' em r' f' e' b p p1 p2:=by
 obtain⟨vs,vf,ws,hmk⟩:=h.fk.mka;have hpb:=hmk.mine;have hB:=(h.fb.mm pb hpb).1
 have hBW:B<=W.heap.size:=by have:=h.hb.1;have:=h.pt.lt;omega
 have hkeep:∀ k,k<W.heap.size->M k=false->K k=false->(U.setCell ⟨pb,i,none⟩ x').heap[k]? =W.heap[k]? /\Mv K x' k=false:=fun k h1 h2 h3=>by
  have hny:y.ownBlock≠some k:=fun e=>by have:=(hy k e).2;rw [h3]at this;cases this
  refine⟨(Below.heap_setCell _ _ _ _ (fun e2=>by have e2:k=pb:=e2;rw [e2,hpb]at h2;cases h2)).trans (hg.block k h1 (fun e=>hny e.symm)),Mv_no.2 ⟨h3,fun e=>?_⟩⟩
  rcases hv with g|⟨g,g1,g2,_⟩
  ·exact hny (g▸e)
  ·rw [e]at g1;injection g1 with g1;omega
 have hsub:Sub (hide W (MK M K)) (hide (U.setCell ⟨pb,i,none⟩ x') (MK M (Mv K x'))):=xzbf fun k h1 h2=>by
  rw [MK_no]at h1;have:=hkeep k h2 h1.1 h1.2;exact⟨MK_no.2 ⟨h1.1,this.2⟩,this.1⟩
 have hsz:(U.setCell ⟨pb,i,none⟩ x').heap.size=U.heap.size:=by simp [World.setCell]
 have hlow:Below B W (U.setCell ⟨pb,i,none⟩ x'):=⟨hg.os,hg.tape,hg.output,by rw [hsz];exact hg.size,fun k hk=>(Below.heap_setCell _ _ _ _ (by show k≠pb;omega)).trans (hg.block k (by omega) (fun e=>by have:=(hy k e.symm).1;omega))⟩;have hpk:=hkeep b h.pt.lt h.hb.2.2 h.hb.2.1;refine⟨hf,⟨h.fb.low.trans hlow,fun k hk=>⟨(h.fb.mm k hk).1,by rw [hsz];exact Nat.lt_of_lt_of_le (h.fb.mm k hk).2 hg.size⟩,fun k hk=>?_,hr,hff,he⟩,hpk.1.trans h.pt,h.h1.sub hsub,h.h2.sub hsub,h.hb.1,hpk.2,h.hb.2.2⟩;rw [hsz];unfold Mv at hk;simp only [Bool.or_eq_true,decide_eq_true_eq]at hk
 rcases hk with hk|hk
 ·exact Nat.lt_of_lt_of_le (h.fb.kk k hk) hg.size
 ·rcases hv with g|⟨g,g1,g2,g3⟩
  ·exact Nat.lt_of_lt_of_le (h.fb.kk k (hy k (g▸hk)).2) hg.size
  ·rw [hk]at g1;injection g1 with g1;omega
theorem AddI.rule {B:Nat}{w W:World}{M K:Nat->Bool}{pb:Nat}{S:Mk}{R F:List Int}{E:List Bool}{em:Int}{r f e:Value}{b:Nat}{p:Prt}{p1 p2:Value}(h:AddI B w W M K pb S R F E em r f e b p p1 p2)(x:Int)(hl:R.length+1<=1099511627776):
 ∃ r' U,(Builtin.append_ #[26,26] 26 #[r,.slice (some ⟨W.heap.size,0,none⟩) 1 1]).run Tryz.prog (W.alloc (.cells #[.int .i64 x] 3))=.ok r' U/\
  (∃ K',AddI B w (U.setCell ⟨pb,1,none⟩ r') M K' pb S (R++[x]) F E em r' f e b p p1 p2)/\(∃ A c,r'=.slice A (R.length+1) c)/\∀ k,M k=true->k<W.heap.size->U.heap[k]? =W.heap[k]? :=by
 have hbA:Below W.heap.size W (W.alloc (.cells #[.int .i64 x] 3)):=(Below.refl _ _).alloc (Nat.le_refl _) _;have hA:=h.step hbA;have hnew:=BlkIs.new W 3 #[.int .i64 x];obtain⟨r',U,hrun,k1,k2,k3,k4⟩:=xzjm hA.fk.rr (l:=[x]) (vb:=.slice (some ⟨W.heap.size,0,none⟩) 1 1) (IntsV.one (K:=fun _=>false) hnew rfl).bare (by simpa using hl)
 have hv:r'.ownBlock=r.ownBlock\/ ∃ g,r'.ownBlock=some g/\(W.alloc (.cells #[.int .i64 x] 3)).heap.size<=g/\g<U.heap.size:=by
  rcases k4 with g|g
  ·exact .inl g
  ·exact .inr ⟨_,g,Nat.le_refl _,(World.ownsRow.lt k1 _ g).2⟩
 have hfk:=hA.fk.newR (x':=r') (L':=R++[x]) (fun k hk hn=>k2.block k hk hn) (by simpa using k1) (fun k hk=>(hA.fb.mm k hk).2) (hv.imp id fun⟨g,g1,g2,_⟩=>⟨g,g1,g2⟩);obtain⟨A,c,rfl,_⟩:=xzbb k1;refine⟨_,U,hrun,⟨_,hA.next (y:=r) k2 (fun k hk=>⟨hA.fb.r0 k hk,(hA.fk.br k hk).1⟩) hv hfk (fun k hk=>?_) hA.fb.f0 hA.fb.e0⟩,⟨A,c,rfl⟩,fun k hk hlt=>(k2.block k (Nat.lt_of_lt_of_le hlt hbA.size) (fun e=>by have:=(hA.fk.br k e.symm).2;rw [hk]at this;cases this)).trans (hbA.block k hlt)⟩
 rcases hv with g|⟨g,g1,g2,_⟩
 ·exact hA.fb.r0 k (g▸hk)
 ·rw [hk]at g1;injection g1 with g1
  have:=h.hb.1;have:=h.pt.lt;have:=hbA.size;omega
theorem AddI.end' {B:Nat}{w W:World}{M K:Nat->Bool}{pb:Nat}{S:Mk}{R F:List Int}{E:List Bool}{em:Int}{r f e:Value}{b:Nat}{p:Prt}{p1 p2:Value}(h:AddI B w W M K pb S R F E em r f e b p p1 p2)(hl:E.length+1<=1099511627776):
 ∃ e' U,(Builtin.append_ #[81,81] 81 #[e,.slice (some ⟨W.heap.size,0,none⟩) 1 1]).run Tryz.prog (W.alloc (.cells #[.bool false] 4))=.ok e' U/\
  (∃ K',AddI B w (U.setCell ⟨pb,4,none⟩ e') M K' pb S R F (E++[false]) em r f e' b p p1 p2)/\(∃ A c,e'=.slice A (E.length+1) c)/\∀ k,M k=true->k<W.heap.size->U.heap[k]? =W.heap[k]? :=by
 have hbA:Below W.heap.size W (W.alloc (.cells #[.bool false] 4)):=(Below.refl _ _).alloc (Nat.le_refl _) _;have hA:=h.step hbA;have hnew:=BlkIs.new W 4 #[.bool false];obtain⟨e',U,hrun,k1,k2,k3,k4⟩:=xzrs hA.fk.re (a:=⟨W.heap.size,0,none⟩) (c:=1) (x:=false) ((hnew.cell 0).trans rfl) hl
 have hv:e'.ownBlock=e.ownBlock\/ ∃ g,e'.ownBlock=some g/\(W.alloc (.cells #[.bool false] 4)).heap.size<=g/\g<U.heap.size:=by
  rcases k4 with g|g
  ·exact .inl g
  ·exact .inr ⟨_,g,Nat.le_refl _,(World.ownsRow.lt k1 _ g).2⟩
 have hfk:=hA.fk.newE (x':=e') (L':=E++[false]) (fun k hk hn=>k2.block k hk hn) (by simpa using k1) (fun k hk=>(hA.fb.mm k hk).2) (hv.imp id fun⟨g,g1,g2,_⟩=>⟨g,g1,g2⟩);obtain⟨A,c,rfl,_⟩:=xzbb k1;refine⟨_,U,hrun,⟨_,hA.next (y:=e) k2 (fun k hk=>⟨hA.fb.e0 k hk,(hA.fk.be k hk).1⟩) hv hfk hA.fb.r0 hA.fb.f0 (fun k hk=>?_)⟩,⟨A,c,rfl⟩,fun k hk hlt=>(k2.block k (Nat.lt_of_lt_of_le hlt hbA.size) (fun e=>by have:=(hA.fk.be k e.symm).2;rw [hk]at this;cases this)).trans (hbA.block k hlt)⟩
 rcases hv with g|⟨g,g1,g2,_⟩
 ·exact hA.fb.e0 k (g▸hk)
 ·rw [hk]at g1;injection g1 with g1
  have:=h.hb.1;have:=h.pt.lt;have:=hbA.size;omega
theorem AddI.mark {B:Nat}{w W:World}{M K:Nat->Bool}{pb:Nat}{S:Mk}{R F:List Int}{E:List Bool}{em:Int}{r f:Value}{g n c b:Nat}{p:Prt}{p1 p2:Value}(h:AddI B w W M K pb S R F E em r f (.slice (some ⟨g,0,none⟩) n c) b p p1 p2)(i:Nat):
 AddI B w (W.setCell ⟨g,i,none⟩ (.bool true)) M K pb S R F (E.set i true) em r f (.slice (some ⟨g,0,none⟩) n c) b p p1 p2:=by
 have hg:=h.fk.be g rfl;have hs:=xzbg (M:=M) (W:=W) (i:=i) hg.1 (.bool true)
 have hsz:(W.setCell ⟨g,i,none⟩ (.bool true)).heap.size=W.heap.size:=by simp [World.setCell]
 exact⟨h.fk.mark i,⟨h.fb.low.setCell (p:=⟨g,i,none⟩) (h.fb.e0 g rfl) _,fun k hk=>by rw [hsz];exact h.fb.mm k hk,fun k hk=>by rw [hsz];exact h.fb.kk k hk,h.fb.r0,h.fb.f0,h.fb.e0⟩,h.pt.far (p:=⟨g,i,none⟩) (fun e=>by have e:b=g:=e;have:=h.hb.2.1;rw [e,hg.1]at this;cases this) _,h.h1.sub hs,h.h2.sub hs,h.hb⟩
theorem AddI.grownF {B:Nat}{w W U:World}{M K:Nat->Bool}{pb:Nat}{S:Mk}{R F:List Int}{E:List Bool}{em:Int}{r f e:Value}{b:Nat}{p:Prt}{p1 p2:Value}(h:AddI B w W M K pb S R F E em r f e b p p1 p2)(hg:W.grownBy U f.ownBlock)
 (hf:U.ownsRow 0 3 1 f F.length (F.map (Value.int .i64))):AddI B w U M K pb S R F E em r f e b p p1 p2:=by
 have hsub:Sub (hide W (MK M K)) (hide U (MK M K)):=xzbf fun k h1 h2=>⟨h1,hg.block k h2 (fun e=>by have:=(h.fk.bf k e.symm).1;rw [MK_no]at h1;rw [h1.2]at this;cases this)⟩
 have hBW:B<=W.heap.size:=by have:=h.hb.1;have:=h.pt.lt;omega
 refine⟨⟨h.fk.mka.sub (fun k hk hm=>hg.block k hk (fun e=>by have:=(h.fk.bf k e.symm).2;rw [hm]at this;cases this)) hsub,xzad h.fk.rr fun k hk=>hg.block k (World.ownsRow.lt h.fk.rr k hk).2 (fun e=>h.fk.nrf k hk e.symm),hf,xzad h.fk.re fun k hk=>hg.block k (World.ownsRow.lt h.fk.re k hk).2 (fun e=>h.fk.nfe k e.symm hk),h.fk.br,h.fk.bf,h.fk.be,h.fk.nrf,h.fk.nre,h.fk.nfe⟩,
  ⟨h.fb.low.grown hg hBW fun k hk=>h.fb.f0 k hk,fun k hk=>⟨(h.fb.mm k hk).1,Nat.lt_of_lt_of_le (h.fb.mm k hk).2 hg.size⟩,fun k hk=>Nat.lt_of_lt_of_le (h.fb.kk k hk) hg.size,h.fb.r0,h.fb.f0,h.fb.e0⟩,(hg.block b h.pt.lt (fun e=>by have:=(h.fk.bf b e.symm).1;rw [h.hb.2.1]at this;cases this)).trans h.pt,h.h1.sub hsub,h.h2.sub hsub,h.hb⟩
theorem AddI.tell {B:Nat}{w W:World}{M K:Nat->Bool}{pb:Nat}{S:Mk}{R F:List Int}{E:List Bool}{em:Int}{r f e:Value}{b:Nat}{p:Prt}{p1 p2:Value}(h:AddI B w W M K pb S R F E em r f e b p p1 p2)(x:Int):
 FkI M K (W.setCell ⟨pb,5,none⟩ (.int .i64 x)) pb S R F E x r f e/\FkB B w M K (W.setCell ⟨pb,5,none⟩ (.int .i64 x)) r f e:=by
 obtain⟨vs,vf,ws,hmk⟩:=h.fk.mka
 have hsz:(W.setCell ⟨pb,5,none⟩ (.int .i64 x)).heap.size=W.heap.size:=by simp [World.setCell]
 have hne:∀ {y:Value} {t:TypeId} {z n:Nat} {ys:List Value},W.ownsRow 0 t z y n ys->(∀ k,y.ownBlock=some k->k≠pb)->(W.setCell ⟨pb,5,none⟩ (.int .i64 x)).ownsRow 0 t z y n ys:=fun ho hy=>xzad ho fun k e=>Below.heap_setCell _ _ _ _ (hy k e)
 have hpb:∀ k,M k=false->k≠pb:=fun k hk e=>by rw [e,hmk.mine]at hk;cases hk
 exact⟨⟨⟨vs,vf,ws,hmk.blk.put 5 _,hmk.mine,hne hmk.own0 fun k hk=>(hmk.far0 k hk).2,hne hmk.own3 fun k hk=>(hmk.far3 k hk).2.1,hmk.far0,hmk.far3,fun i hi=>by obtain⟨y,h1,h2⟩:=hmk.rows i hi;exact⟨y,h1,h2.sub ((Nx.put (M:=M) (p:=⟨pb,5,none⟩) hmk.mine _).sub K)⟩⟩,hne h.fk.rr fun k hk=>hpb k (h.fk.br k hk).2,hne h.fk.rf fun k hk=>hpb k (h.fk.bf k hk).2,hne h.fk.re fun k hk=>hpb k (h.fk.be k hk).2,h.fk.br,h.fk.bf,h.fk.be,h.fk.nrf,h.fk.nre,h.fk.nfe⟩,
  ⟨h.fb.low.setCell (p:=⟨pb,5,none⟩) (h.fb.mm pb hmk.mine).1 _,fun k hk=>by rw [hsz];exact h.fb.mm k hk,fun k hk=>by rw [hsz];exact h.fb.kk k hk,h.fb.r0,h.fb.f0,h.fb.e0⟩⟩
end
section
open Go.RowKit
attribute [local irreducible] FreeW textFrame
def marksE:List Bool->List Int->List Bool
 |E,[]=>E
 |E,x::l=>marksE (E.set x.toNat true) l
theorem xzjn (x:Int):∀ (l:List Int) (E:List Bool),marksE E (l++[x])=(marksE E l).set x.toNat true
 |[],E=>rfl
 |y::l,E=>by simp only [List.cons_append,marksE,xzjn x l]
theorem xzid:∀ (l:List Int) (E:List Bool),(marksE E l).length=E.length
 |[],E=>rfl
 |y::l,E=>by simp only [marksE,xzid l,List.length_set]
theorem xzvs {α:Type}(l:List α)(x:α)(j:Nat):l++List.replicate j x++[x]=l++List.replicate (j+1) x:=by
 rw [List.append_assoc,List.replicate_succ']
theorem AddI.cells {B:Nat}{w W:World}{M K:Nat->Bool}{pb:Nat}{S:Mk}{R F:List Int}{E:List Bool}{em:Int}{r f e:Value}{b:Nat}{p:Prt}{p1 p2:Value}(h:AddI B w W M K pb S R F E em r f e b p p1 p2):
 ∃ A0 c0 A1 c1 A2 c2 A3 c3 A4 c4,r=.slice A1 R.length c1/\f=.slice A2 F.length c2/\e=.slice A4 E.length c4/\BlkIs W pb 117 #[.slice A0 S.sets.length c0,.slice A1 R.length c1,.slice A2 F.length c2,.slice A3 S.follow.length c3,.slice A4 E.length c4,.int .i64 em]:=by
 obtain⟨vs,vf,ws,hmk⟩:=h.fk.mka;obtain⟨A0,c0,rfl,_⟩:=xzbb hmk.own0;obtain⟨A3,c3,rfl,_⟩:=xzbb hmk.own3;obtain⟨A1,c1,rfl,_⟩:=xzbb h.fk.rr;obtain⟨A2,c2,rfl,_⟩:=xzbb h.fk.rf;obtain⟨A4,c4,rfl,_⟩:=xzbb h.fk.re;exact⟨A0,c0,A1,c1,A2,c2,A3,c3,A4,c4,rfl,rfl,rfl,hmk.blk⟩
set_option maxRecDepth 20000 in
set_option maxHeartbeats 16000000 in
theorem add_any (T:Tree)(HP:PartIs T)(hok:T.okT)(B pb:Nat)(i:Int)(S:Mk)(R F:List Int)(E:List Bool)(em:Int)(r f e:Value)(M K:Nat->Bool)(v:Value)(w:World)(h:FkI M K w pb S R F E em r f e)(hb:FkB B w M K w r f e)(hB:B<=w.heap.size)
 (hat:T.At (hide w M) v)(hS:S.Ok)(hR:R.length=S.sets.length)(hE:E.length=S.sets.length)(hF:F.length<=1048576)(hn:S.sets.length+T.plN<=1048576):
 Calls Tryz.prog 60 #[.pointer (some ⟨pb,0,none⟩),.int .i64 i,v] w fun x w'=>∃ y,x=.returned y/\∃ M' K' r' f' e',FkI M' K' w' pb (partP T S).1 (R++List.replicate T.plN i) (F++(partP T S).2.first) (marksE (E++List.replicate T.plN false) (partP T S).2.ends) (if(partP T S).2.empty&&em== -1 then i else em) r' f' e'/\FkB B w M' K' w' r' f' e':=by
 obtain⟨A,n,c,rfl⟩:∃ A n c,v=reV T.kind T.set A n c T.lo T.hi:=by
  cases T with
  |node k m l lo hi=>
   obtain⟨A,c,e,_,_⟩:=hat.open;exact⟨A,l.length,c,e⟩
 have hbx:Below w.heap.size w (w.alloc (.cells (reL T.kind T.set A n c T.lo T.hi).toArray 55)):=(Below.refl _ _).alloc (Nat.le_refl _) _;have hx:=BlkIs.new w 55 (reL T.kind T.set A n c T.lo T.hi).toArray;obtain⟨hpo1,hpo2,hpo3⟩:=xzkl T S hok hS;have HC:=zd (HP M K S _ pb r f e (.int .i64 em) _ (h.mka.step hbx) (hat.sub (xzai _ hbx)) hS hn (fun k hk=>Nat.lt_of_lt_of_le (hb.mm k hk).2 hbx.size) (fun k hk=>Nat.lt_of_lt_of_le (hb.kk k hk) hbx.size));have H0:=zd (And.intro (h.step hbx) (And.intro (hb.step hbx hB) hbx));have HO:=zd (And.intro hpo1 hpo2);have HKW:=zd hb.kk;obtain⟨d0,d1,d2,d3,d4,d5,d6,d7⟩:=hx.eight
 have hsz:(w.alloc (.cells (reL T.kind T.set A n c T.lo T.hi).toArray 55)).heap.size=w.heap.size+1:=by simp
 obtain⟨W1,hW1⟩:∃ W1,w.alloc (.cells (reL T.kind T.set A n c T.lo T.hi).toArray 55)=W1:=⟨_,rfl⟩;rw [hW1]at H0 HC hsz d0 d1 d2 d3 d4 d5 d6 d7;have HSZ:=zd hsz;unfold reV reL at*;clear hbx hx h hb hat hS hok HP hsz hpo1 hpo2;generalize partP T S=TS at*;generalize T.plN=d at*;have HEQ:=zd (And.intro hR (And.intro hE (And.intro hpo3 hn)));clear hR hE hpo3 hn;generalize T.kind=kx at*;generalize T.set=mx at*;generalize T.lo=lx at*;generalize T.hi=hxx at*;obtain⟨EM,hEM⟩:∃ EM,EM=(if TS.2.empty&&em== -1 then i else em):=⟨_,rfl⟩;rw [<-hEM];have HEM:=zd hEM;clear hEM
 go_enter Tryz.func60,Tryz.ntmps60
 go_wp2_with fail
 go_at_call 80
 refine HC.out.mono ?_;rintro x u1 ⟨M1,v1,rfl,hnx,hlt1,hmk,p1,p2,rfl,hp1,hp2⟩;obtain⟨Y1,y1,rfl,_⟩:=hp1.form;obtain⟨Y2,y2,rfl,_⟩:=hp2.form;obtain⟨U2,hU2⟩:∃ U2,u1.alloc (.cells #[.slice Y1 TS.2.first.length y1,.slice Y2 TS.2.ends.length y2,.bool TS.2.empty] 149)=U2:=⟨_,rfl⟩
 have hb2:Below u1.heap.size u1 U2:=by rw [<-hU2];exact(Below.refl _ _).alloc (Nat.le_refl _) _
 have hf2:BlkIs U2 u1.heap.size 149 #[.slice Y1 TS.2.first.length y1,.slice Y2 TS.2.ends.length y2,.bool TS.2.empty]:=by rw [<-hU2];exact BlkIs.new _ _ _
 have hsz1:w.heap.size+1<=u1.heap.size:=by have:=hnx.size;have:=HSZ.out;omega
 have hadd:AddI B w U2 M1 K pb TS.1 R F E em r f e u1.heap.size TS.2 (.slice Y1 TS.2.first.length y1) (.slice Y2 TS.2.ends.length y2):=by
  have hm1:∀ k,M1 k=true->B<=k:=fun k hk=>by
   rcases Nat.lt_or_ge k W1.heap.size with g|g
   ·rw [hnx.mine k g]at hk;exact(H0.out.2.1.mm k hk).1
   ·have:=HSZ.out;omega
  exact⟨(H0.out.1.part hnx hmk).step hb2,⟨H0.out.2.1.low.trans ((hnx.low (by have:=HSZ.out;omega) fun k hk=>(H0.out.2.1.mm k hk).1).trans (hb2.mono (by omega))),fun k hk=>⟨hm1 k hk,Nat.lt_of_lt_of_le (hlt1 k hk) hb2.size⟩,fun k hk=>by have:=HKW.out k hk;have:=hf2.lt;omega,H0.out.2.1.r0,H0.out.2.1.f0,H0.out.2.1.e0⟩,hf2,hp1.sub (xzai _ hb2),hp2.sub (xzai _ hb2),
   by omega,by rw [Bool.eq_false_iff];intro e;have:=HKW.out _ e;omega,by rw [Bool.eq_false_iff];intro e;have:=hlt1 _ e;omega⟩
 have HA:=zd hadd;have HB1:=zd hsz1;clear hnx hlt1 hmk hp1 hp2 hb2 hf2 hsz1 hadd d0 d1 d2 d3 d4 d5 d6 d7;go_wp2
 go_loopw [] (fun wr=>Hid (∃ (j:Nat) (K1:Nat->Bool) (r1 e1:Value),j<=d/\AddI B w wr M1 K1 pb TS.1 (R++List.replicate j i) F (E++List.replicate j false) em r1 f e1 u1.heap.size TS.2 (.slice Y1 TS.2.first.length y1) (.slice Y2 TS.2.ends.length y2))) (fun wr=>TS.1.sets.length - lenV ((wr.cell? ⟨pb,1,none⟩).getD undef))
 case atStart=>exact zd ⟨0,K,r,e,Nat.zero_le _,by simpa using HA.out⟩
 case round=>
  obtain⟨j,K1,r1,e1,hj,hai⟩:=hrel.out;clear hrel;obtain⟨A0,c0,A1,c1,A2,c2,A3,c3,A4,c4,rfl,rfl,rfl,hblk⟩:=hai.cells
  have eR:(R++List.replicate j i).length=R.length+j:=by simp
  have eE:(E++List.replicate j false).length=E.length+j:=by simp
  rw [eR,eE]at hblk;rw [eR,eE]at hai;obtain⟨k0,k1,k2,k3,k4,k5⟩:=six hblk;have HAI:=zd hai
  by_cases hp:j<d
  ·have hdl:decide (((R.length+j:Nat):Int)<(TS.1.sets.length:Int))=true:=by have:=HEQ.out;simp;omega
   clear hai;simp only [Int.natCast_add]at hdl;go_wp2
   go_quiet (fail)
   have hq:=HAI.out.step (xzar (Below.refl wr.heap.size wr) nq)
   have hRE:R.length+j+1<=1099511627776/\E.length+j+1<=1099511627776:=by have:=HEQ.out;omega
   obtain⟨r',U,hrun,⟨K2,hA2⟩,⟨Ar,cr,rfl⟩,hUk⟩:=hq.rule i (by rw [eR];exact hRE.1);rw [eR]at hrun hA2;obtain⟨vs5,vf5,ws5,hmk5⟩:=hq.fk.mka;have hq0:BlkIs (wr.drewN nq) pb 117 #[.slice A0 TS.1.sets.length c0,.slice A1 (R.length+j) c1,.slice A2 F.length c2,.slice A3 TS.1.follow.length c3,.slice A4 (E.length+j) c4,.int .i64 em]:=hblk;have hbU:BlkIs U pb 117 _:=(hUk pb hmk5.mine hmk5.blk.lt).trans hq0;obtain⟨U1,hU1⟩:∃ U1,U.setCell ⟨pb,1,none⟩ (.slice Ar (R.length+j+1) cr)=U1:=⟨_,rfl⟩;rw [hU1]at hA2
   have hbU1:BlkIs U1 pb 117 #[.slice A0 TS.1.sets.length c0,.slice Ar (R.length+j+1) cr,.slice A2 F.length c2,.slice A3 TS.1.follow.length c3,.slice A4 (E.length+j) c4,.int .i64 em]:=by rw [<-hU1];exact hbU.put 1 _
   obtain⟨e',U',hrun2,⟨K3,hA3⟩,⟨Ae,ce,rfl⟩,hUk2⟩:=hA2.end' (by rw [eE];exact hRE.2);rw [eE]at hrun2 hA3;obtain⟨vs6,vf6,ws6,hmk6⟩:=hA2.fk.mka;have hbU':BlkIs U' pb 117 _:=(hUk2 pb hmk6.mine hmk6.blk.lt).trans hbU1;have hfc:(U'.setCell ⟨pb,4,none⟩ (.slice Ae (E.length+j+1) ce)).cell? ⟨pb,1,none⟩=some (.slice Ar (R.length+j+1) cr):=(hbU'.put 4 (.slice Ae (E.length+j+1) ce)).cell 1;have HF:=zd (And.intro hA3 (And.intro hfc k1));obtain⟨g0,g1,g2,g3,g4,g5⟩:=six hbU;obtain⟨l0,l1,l2,l3,l4,l5⟩:=six hbU1;obtain⟨o0,o1,o2,o3,o4,o5⟩:=six hbU';have fz1:=hbU.frozen 1;have fz4:=hbU'.frozen 4;obtain⟨m0,m1,m2,m3,m4,m5⟩:=six hq0;clear hq hA2 hUk hmk5 hq0 hbU hbU1 hUk2 hmk6 hbU' hA3 hfc eR eE
   go_wp2_with(first|(refine xzan rfl _ _ 26 26 rfl rfl rfl hrun ?_)|(refine xzan rfl _ _ 81 81 rfl rfl rfl hrun2 ?_))
   refine⟨zd ⟨j+1,K3,_,_,hp,by rw [<-xzvs,<-xzvs];exact HF.out.1⟩,?_⟩;rw [HF.out.2.1,HF.out.2.2];have:=HEQ.out
   simp [lenV];omega
  ·obtain rfl:j=d:=by omega
   have hdl:decide (((R.length+j:Nat):Int)<(TS.1.sets.length:Int))=false:=by have:=HEQ.out;simp;omega
   obtain⟨y0,y1',y2',_,_,_⟩:=three hai.pt;clear hai eR eE hp hj;simp only [Int.natCast_add]at hdl
   have hst:∀ q,Below wr.heap.size wr (wr.drewN q):=fun q=>xzar (Below.refl _ _) q
   go_wp2
   go_quiet (fail)
   obtain⟨V1,hV1⟩:∃ V1,V1=wr.drewN nq:=⟨_,rfl⟩;have hai1:=HAI.out.step (hst nq);have hb1:BlkIs (wr.drewN nq) pb 117 _:=hblk.step (hst nq);have HA1:=zd (And.intro hai1 hb1);obtain⟨z0,z1,z2,_,_,_⟩:=three hai1.pt;clear hai1 hb1 hblk HAI hst;go_wp2
   go_loopw [52] (fun s wz=>∃ q:Nat,s=.int .i64 q/\q<=TS.2.ends.length/\Hid (∃ EE,EE=marksE (E++List.replicate j false) (TS.2.ends.take q)/\AddI B w wz M1 K1 pb TS.1 (R++List.replicate j i) F EE em (.slice A1 (R.length+j) c1) (.slice A2 F.length c2) (.slice A4 (E.length+j) c4) u1.heap.size TS.2 (.slice Y1 TS.2.first.length y1) (.slice Y2 TS.2.ends.length y2)/\
    BlkIs wz pb 117 #[.slice A0 TS.1.sets.length c0,.slice A1 (R.length+j) c1,.slice A2 F.length c2,.slice A3 TS.1.follow.length c3,.slice A4 (E.length+j) c4,.int .i64 em])) (fun s _=>TS.2.ends.length - (intOf s).toNat)
   case atStart=>exact⟨0,rfl,Nat.zero_le _,zd ⟨_,rfl,by simpa [marksE]using HA1.out.1,HA1.out.2⟩⟩
   case round=>
    obtain⟨q,rfl,hq,HH⟩:=hrel;obtain⟨EE,hEE,hai,hbk⟩:=HH.out;clear HH;obtain⟨k0,k1,k2,k3,k4,k5⟩:=six hbk
    have hEl:EE.length=E.length+j:=by rw [hEE,xzid];simp
    by_cases hp:q<TS.2.ends.length
    ·have hk1:IntKind.i64.wrap ((q:Int)+1)=((q+1:Nat):Int):=by rw [IntKind.wrap_i64];omega
     have hdl:decide ((q:Int)<(TS.2.ends.length:Int))=true:=by simp;omega
     obtain⟨b2,o2,c2',h1,hre⟩:=hai.h2.run (by intro e;rw [e]at hp;simp at hp)
     injection h1 with h1 _ h2
     subst h1 h2;have hcell:=xzba _ _ (hre.2 q hp);have hx:=xzhu HO.out.2.2 _ (List.getElem_mem hp)
     have hsn:marksE (E++List.replicate j false) (TS.2.ends.take (q+1))=EE.set (TS.2.ends[q]).toNat true:=by rw [List.take_succ_eq_append_getElem hp,xzjn,hEE]
     generalize TS.2.ends[q]=x at*;obtain⟨xn,rfl⟩:=Int.eq_ofNat_of_zero_le (show 0<=x by omega)
     have hxn:xn<E.length+j:=by have:=HEQ.out;omega
     have hxi:(xn:Int)<((E.length+j:Nat):Int):=by omega
     simp only [Int.natCast_add]at hxi;rw [Int.toNat_natCast]at hsn
     obtain⟨g,rfl⟩:∃ g,A4=some ⟨g,0,none⟩:=by
      rcases hai.fk.re.2 with⟨h1,_⟩|⟨g,_,_,h1,_⟩
      ·injection h1 with _ h1;omega
      ·injection h1 with h1;exact⟨g,h1⟩
     have hown:=hai.fk.re;rw [hEl]at hown;have hce:wr.cell? ⟨g,xn,none⟩=(EE.map Value.bool)[xn]? :=World.ownsRow.cellAt hown xn (by omega);have hfz:=World.ownsRow.frozenAt hown xn;rw [List.getElem?_map,List.getElem?_eq_getElem (by omega),Option.map_some]at hce;have hm:=hai.mark xn;have hg:=hai.fk.be g rfl;obtain⟨_,_,_,hmk9⟩:=hai.fk.mka;have hbk2:BlkIs (wr.setCell ⟨g,xn,none⟩ (.bool true)) pb 117 _:=hbk.far (p:=⟨g,xn,none⟩) (fun e=>by have e:pb=g:=e;have:=hg.2;rw [<-e,hmk9.mine]at this;cases this) _;have HM:=zd (And.intro hsn (And.intro hm hbk2));clear hai hbk hre hown hm hbk2 hsn hEE hg hmk9 z0 z1 z2;go_wp2;exact⟨⟨q+1,rfl,hp,zd ⟨_,HM.out.1.symm,HM.out.2.1,HM.out.2.2⟩⟩,by simp [intOf];omega⟩
    ·obtain rfl:q=TS.2.ends.length:=by omega
     have hdl:decide ((TS.2.ends.length:Int)<(TS.2.ends.length:Int))=false:=by simp
     rw [List.take_length]at hEE;have HEE:=zd hEE;have HA4:=zd (And.intro hai hbk);have HLF:=zd (show F.length+TS.2.first.length<=2097152 by have h1:=xzay HO.out.2.1;have:=HEQ.out;omega);clear z0 z1 z2;obtain⟨z0,z1,z2,_,_,_⟩:=three hai.pt;clear hai hbk hEE hEl
     go_wp2_with fail
     refine xzaf 13 92 (fun u=>Hid (AddI B w u M1 K1 pb TS.1 (R++List.replicate j i) F EE em (.slice A1 (R.length+j) c1) (.slice A2 F.length c2) (.slice A4 (E.length+j) c4) u1.heap.size TS.2 (.slice Y1 TS.2.first.length y1) (.slice Y2 TS.2.ends.length y2)/\BlkIs u pb 117 #[.slice A0 TS.1.sets.length c0,.slice A1 (R.length+j) c1,.slice A2 F.length c2,.slice A3 TS.1.follow.length c3,.slice A4 (E.length+j) c4,.int .i64 em]/\wr.grownBy u (Value.slice A2 F.length c2).ownBlock)) (fun i u u'=>(i=9->u.grownBy u' (Value.slice A2 F.length c2).ownBlock/\u'.ownsRow 0 3 1 (.slice A2 F.length c2) F.length (F.map (Value.int .i64)))/\(i≠9->u'=u))
      (fun i v u=>match i with
       |0=>v=.pointer (some ⟨pb,0,none⟩)
       |1=>v=.pointer (some ⟨pb,0,none⟩)
       |2=>v=.pointer (some ⟨pb,0,none⟩)
       |3=>v=.pointer (some ⟨pb,0,none⟩)
       |4=>v=.pointer (some ⟨pb,2,none⟩)
       |5=>v=.slice A2 F.length c2
       |6=>v=.pointer (some ⟨u1.heap.size,0,none⟩)
       |7=>v=.pointer (some ⟨u1.heap.size,0,none⟩)
       |8=>v=.slice Y1 TS.2.first.length y1
       |9=>u.ownsRow 0 3 1 v (F.length+TS.2.first.length) (F.map (Value.int .i64)++TS.2.first.map (Value.int .i64))/\(v.ownBlock=(Value.slice A2 F.length c2).ownBlock\/ ∃ g,v.ownBlock=some g/\wr.heap.size<=g/\g<u.heap.size)
       |10=>v=.pointer (some ⟨pb,0,none⟩)
       |11=>v=.pointer (some ⟨pb,0,none⟩)
       |12=>v=.pointer (some ⟨pb,2,none⟩)
       |_=>True) (by kernel_rfl) (by kernel_rfl) rfl (zd ⟨HA4.out.1.step (Below.refl _ _).drew,HA4.out.2.drew,⟨rfl,rfl,rfl,Nat.le_refl _,fun _ _ _=>rfl⟩⟩) ?_ ?_ ?_ ?_
     ·intro i u u' hix hC hr
      by_cases hi9:i=9
      ·obtain⟨g1,g2⟩:=hr.1 hi9
       obtain⟨_,_,_,hmk9⟩:=hC.out.1.fk.mka;exact zd ⟨hC.out.1.grownF g1 g2,(g1.block _ hC.out.2.1.lt (fun e=>by have:=(hC.out.1.fk.bf _ e.symm).2;rw [hmk9.mine]at this;cases this)).trans hC.out.2.1,hC.out.2.2.trans g1⟩
      ·rw [hr.2 hi9];exact hC
     ·intro i j v u u' hix hj hne hv hr
      match i,hix,hne,hv with
      |0,_,_,hv=>exact hv
      |1,_,_,hv=>exact hv
      |2,_,_,hv=>exact hv
      |3,_,_,hv=>exact hv
      |4,_,_,hv=>exact hv
      |5,_,_,hv=>exact hv
      |6,_,_,hv=>exact hv
      |7,_,_,hv=>exact hv
      |8,_,_,hv=>exact hv
      |9,_,hne,hv=>
       have hj9:=hr.2 (Ne.symm hne);subst hj9;exact hv
      |10,_,_,hv=>exact hv
      |11,_,_,hv=>exact hv
      |12,_,_,hv=>exact hv
      |i+13,hix,_,_=>omega
     ·intro i hix vs u hC hw oq ho
      match i,hix,hw,ho with
      |0,_,hw,ho=>
       simp only [zq,zh]at ho;subst ho;refine⟨rfl,?_⟩;obtain⟨k0,k1,k2,k3,k4,k5⟩:=six hC.out.2.1;obtain⟨y0,y1',y2',_,_,_⟩:=three hC.out.1.pt;clear hw;simp only [xzaa,tmpsTo];go_simp;exact xzab (rfl) rfl
      |1,_,hw,ho=>
       simp only [zq,zh]at ho;subst ho;refine⟨rfl,?_⟩;obtain⟨k0,k1,k2,k3,k4,k5⟩:=six hC.out.2.1;obtain⟨y0,y1',y2',_,_,_⟩:=three hC.out.1.pt;clear hw;simp only [xzaa,tmpsTo,putT,zr];go_simp;exact xzab (rfl) rfl
      |2,_,hw,ho=>
       have e1:vs 1=.pointer (some ⟨pb,0,none⟩):=hw 1 (by omega) (by kernel_rfl);simp only [zq,zh]at ho;subst ho;refine⟨rfl,?_⟩;obtain⟨k0,k1,k2,k3,k4,k5⟩:=six hC.out.2.1;obtain⟨y0,y1',y2',_,_,_⟩:=three hC.out.1.pt;clear hw;simp only [xzaa,tmpsTo,putT,zr];rw [e1];clear e1;go_simp;exact xzab (rfl) rfl
      |3,_,hw,ho=>
       have e2:vs 2=.pointer (some ⟨pb,0,none⟩):=hw 2 (by omega) (by kernel_rfl);simp only [zq,zh]at ho;subst ho;refine⟨rfl,?_⟩;obtain⟨k0,k1,k2,k3,k4,k5⟩:=six hC.out.2.1;obtain⟨y0,y1',y2',_,_,_⟩:=three hC.out.1.pt;clear hw;simp only [xzaa,tmpsTo,putT,zr];rw [e2];clear e2;go_simp;exact xzab (rfl) rfl
      |4,_,hw,ho=>
       have e3:vs 3=.pointer (some ⟨pb,0,none⟩):=hw 3 (by omega) (by kernel_rfl);simp only [zq,zh]at ho;subst ho;refine⟨rfl,?_⟩;obtain⟨k0,k1,k2,k3,k4,k5⟩:=six hC.out.2.1;obtain⟨y0,y1',y2',_,_,_⟩:=three hC.out.1.pt;clear hw;simp only [xzaa,tmpsTo,putT,zr];rw [e3];clear e3;go_simp;exact xzab (rfl) rfl
      |5,_,hw,ho=>
       have e4:vs 4=.pointer (some ⟨pb,2,none⟩):=hw 4 (by omega) (by kernel_rfl);simp only [zq,zh]at ho;subst ho;refine⟨rfl,?_⟩;obtain⟨k0,k1,k2,k3,k4,k5⟩:=six hC.out.2.1;obtain⟨y0,y1',y2',_,_,_⟩:=three hC.out.1.pt;clear hw;simp only [xzaa,tmpsTo,putT,zr];rw [e4];clear e4;go_simp;exact xzab (rfl) rfl
      |6,_,hw,ho=>
       simp only [zq,zh]at ho;subst ho;refine⟨rfl,?_⟩;obtain⟨k0,k1,k2,k3,k4,k5⟩:=six hC.out.2.1;obtain⟨y0,y1',y2',_,_,_⟩:=three hC.out.1.pt;clear hw;simp only [xzaa,tmpsTo,putT,zr];go_simp;exact xzab (rfl) rfl
      |7,_,hw,ho=>
       have e6:vs 6=.pointer (some ⟨u1.heap.size,0,none⟩):=hw 6 (by omega) (by kernel_rfl);simp only [zq,zh]at ho;subst ho;refine⟨rfl,?_⟩;obtain⟨k0,k1,k2,k3,k4,k5⟩:=six hC.out.2.1;obtain⟨y0,y1',y2',_,_,_⟩:=three hC.out.1.pt;clear hw;simp only [xzaa,tmpsTo,putT,zr];rw [e6];clear e6;go_simp;exact xzab (rfl) rfl
      |8,_,hw,ho=>
       have e7:vs 7=.pointer (some ⟨u1.heap.size,0,none⟩):=hw 7 (by omega) (by kernel_rfl);simp only [zq,zh]at ho;subst ho;refine⟨rfl,?_⟩;obtain⟨k0,k1,k2,k3,k4,k5⟩:=six hC.out.2.1;obtain⟨y0,y1',y2',_,_,_⟩:=three hC.out.1.pt;clear hw;simp only [xzaa,tmpsTo,putT,zr];rw [e7];clear e7;go_simp;exact xzab (rfl) rfl
      |9,_,hw,ho=>
       have e5:vs 5=.slice A2 F.length c2:=hw 5 (by omega) (by kernel_rfl);have e8:vs 8=.slice Y1 TS.2.first.length y1:=hw 8 (by omega) (by kernel_rfl);simp only [zq,zh]at ho;subst ho;refine⟨rfl,?_⟩;obtain⟨k0,k1,k2,k3,k4,k5⟩:=six hC.out.2.1;obtain⟨y0,y1',y2',_,_,_⟩:=three hC.out.1.pt;clear hw;simp only [xzaa,tmpsTo,putT,zr];rw [e5,e8];clear e5 e8;obtain⟨v',W',hrun,k1,k2,k3,k4⟩:=xzjm hC.out.1.fk.rf hC.out.1.h1.bare (by have:=HLF.out;omega);rw [xzca (.tmp 69) (.tmp 72) 26 26 rfl rfl rfl hrun];refine xzab ?_ ?_
       ·exact⟨fun _=>⟨k2,k3⟩,fun h=>absurd rfl h⟩
       ·refine⟨k1,?_⟩
        rcases k4 with k4|k4
        ·exact .inl k4
        ·exact .inr ⟨_,k4,hC.out.2.2.size,(World.ownsRow.lt k1 _ k4).2⟩
      |10,_,hw,ho=>
       have e0:vs 0=.pointer (some ⟨pb,0,none⟩):=hw 0 (by omega) (by kernel_rfl);simp only [zq,zh]at ho;subst ho;refine⟨rfl,?_⟩;obtain⟨k0,k1,k2,k3,k4,k5⟩:=six hC.out.2.1;obtain⟨y0,y1',y2',_,_,_⟩:=three hC.out.1.pt;clear hw;simp only [xzaa,tmpsTo,putT,zr];rw [e0];clear e0;go_simp;exact xzab (rfl) rfl
      |11,_,hw,ho=>
       have e10:vs 10=.pointer (some ⟨pb,0,none⟩):=hw 10 (by omega) (by kernel_rfl);simp only [zq,zh]at ho;subst ho;refine⟨rfl,?_⟩;obtain⟨k0,k1,k2,k3,k4,k5⟩:=six hC.out.2.1;obtain⟨y0,y1',y2',_,_,_⟩:=three hC.out.1.pt;clear hw;simp only [xzaa,tmpsTo,putT,zr];rw [e10];clear e10;go_simp;exact xzab (rfl) rfl
      |12,_,hw,ho=>
       have e11:vs 11=.pointer (some ⟨pb,0,none⟩):=hw 11 (by omega) (by kernel_rfl);simp only [zq,zh]at ho;subst ho;refine⟨rfl,?_⟩;obtain⟨k0,k1,k2,k3,k4,k5⟩:=six hC.out.2.1;obtain⟨y0,y1',y2',_,_,_⟩:=three hC.out.1.pt;clear hw;simp only [xzaa,tmpsTo,putT,zr];rw [e11];clear e11;go_simp;exact xzab (rfl) rfl
      |i+13,hix,_,_=>omega
     intro vs1 u hC hV;obtain⟨v9,h9⟩:∃ v,v=vs1 9:=⟨_,rfl⟩
     have hv9:u.ownsRow 0 3 1 v9 (F.length+TS.2.first.length) (F.map (Value.int .i64)++TS.2.first.map (Value.int .i64))/\(v9.ownBlock=(Value.slice A2 F.length c2).ownBlock\/ ∃ g,v9.ownBlock=some g/\wr.heap.size<=g/\g<u.heap.size):=by rw [h9];exact hV 9 (by omega)
     have h12:vs1 12=.pointer (some ⟨pb,2,none⟩):=hV 12 (by omega);clear hV;simp only [xzaa,tmpsTo,putT,zr,List.drop_succ_cons,List.drop_zero];rw [h12,<-h9];clear h9 h12;generalize vs1 0=q0;generalize vs1 1=q1;generalize vs1 2=q2;generalize vs1 3=q3;generalize vs1 4=q4;generalize vs1 5=q5;generalize vs1 6=q6;generalize vs1 7=q7;generalize vs1 8=q8;generalize vs1 10=q10;generalize vs1 11=q11;have hfk:=HA4.out.1.fk.newF (U:=u) (x':=v9) (L':=F++TS.2.first) (fun k hk hn=>hC.out.2.2.block k hk hn) (by rw [List.length_append,List.map_append];exact hv9.1) (fun k hk=>(HA4.out.1.fb.mm k hk).2) (hv9.2.imp id fun⟨g,g1,g2,_⟩=>⟨g,g1,g2⟩)
     have hB2:B<=wr.heap.size:=by have:=HA4.out.1.hb.1;have:=HA4.out.1.pt.lt;omega
     have hai5:=HA4.out.1.next (y:=.slice A2 F.length c2) hC.out.2.2 (fun k hk=>⟨HA4.out.1.fb.f0 k hk,(HA4.out.1.fk.bf k hk).1⟩) hv9.2 hfk HA4.out.1.fb.r0 (fun k hk=>by
      rcases hv9.2 with g|⟨g,g1,g2,_⟩
      ·exact HA4.out.1.fb.f0 k (g▸hk)
      ·rw [hk]at g1;injection g1 with g1;omega) HA4.out.1.fb.e0
     have hbu:=hC.out.2.1;obtain⟨A9,c9,rfl,_⟩:=xzbb hv9.1;obtain⟨U5,hU5⟩:∃ U5,u.setCell ⟨pb,2,none⟩ (.slice A9 (F.length+TS.2.first.length) c9)=U5:=⟨_,rfl⟩;rw [hU5]at hai5
     have hb5:BlkIs U5 pb 117 #[.slice A0 TS.1.sets.length c0,.slice A1 (R.length+j) c1,.slice A9 (F.length+TS.2.first.length) c9,.slice A3 TS.1.follow.length c3,.slice A4 (E.length+j) c4,.int .i64 em]:=by rw [<-hU5];exact hbu.put 2 (.slice A9 (F.length+TS.2.first.length) c9)
     obtain⟨m0,m1,m2,m3,m4,m5⟩:=six hbu;have fz2:=hbu.frozen 2;clear k0 k1 k2 k3 k4 k5 z0 z1 z2;obtain⟨k0,k1,k2,k3,k4,k5⟩:=six hb5;have fz5:=hb5.frozen 5;obtain⟨z0,z1,z2,_,_,_⟩:=three hai5.pt;have H5:=zd hai5;clear hfk hai5 hbu hb5 hv9 hC
     cases hpe:TS.2.empty with
     |false=>
      rw [hpe]at z2;have HFM:=zd (show EM=em by rw [HEM.out,hpe];rfl);go_wp2
      go_end0
      exact⟨_,rfl,_,_,_,_,_,by rw [HFM.out,<-HEE.out];exact H5.out.fk,H5.out.fb⟩
     |true=>
      rw [hpe]at z2
      by_cases hem:em= -1
      ·have e1:(em== -1)=true:=by simp [hem]
       have HFM:=zd (show EM=i by rw [HEM.out,hpe,e1];rfl);have ht:=zd (H5.out.tell i);clear hem;go_wp2
       go_end0
       exact⟨_,rfl,_,_,_,_,_,by rw [HFM.out,<-HEE.out];exact ht.out.1,ht.out.2⟩
      ·have e1:(em== -1)=false:=by simp [hem]
       have HFM:=zd (show EM=em by rw [HEM.out,hpe,e1];rfl);clear hem;go_wp2
       go_end0
       exact⟨_,rfl,_,_,_,_,_,by rw [HFM.out,<-HEE.out];exact H5.out.fk,H5.out.fb⟩
end
section
open Go.RowKit
section turn
variable {P : Program} {ops : Array Oper} {C : Bool → World → Prop}
def actUpon2 (P:Program)(w:World)(R:World->World->Prop)(V:Value->World->Prop):Result Next->Prop
 | .ok (.value v) w'=>R w w'/\V v w'
 | .ok .skip w'=>R w w'/\V undef w'
 | .ok (.enter f args) w'=>w'=w/\Calls P f args w (fun e w''=>∃ v,e=.returned v/\R w w''/\V v w'')
 |_=>False
theorem xzbc {w w':World}{R:World->World->Prop}{V:Value->World->Prop}{x:Value}(hr:R w w')(h:V x w'):actUpon2 P w R V (.ok (.value x) w'):=⟨hr,h⟩
theorem xzgq {w w':World}{R:World->World->Prop}{V:Value->World->Prop}(hr:R w w')(h:V undef w'):actUpon2 P w R V (.ok .skip w'):=⟨hr,h⟩
def StandsU (ops:Array Oper)(xo:Nat)(C:Bool->World->Prop)(h:Nat)(V:Nat->Value->World->Prop)(a0:Act)(listed:Array Bool)(a:Act)(u:World):Prop:=
 HeadInv .any ops h listed/\∃ vs:Nat->Value,Came ops (fun i=>listed.getD i false) vs a0 a/\C (listed.getD xo false) u/\(∀ i,i<h->listed.getD i false=true->V i (vs i) u)
def StepU (P:Program)(ops:Array Oper)(xo:Nat)(C:Bool->World->Prop)(R:Nat->World->World->Prop)(V:Nat->Value->World->Prop)(a0:Act)(i:Nat):Prop:=
 ∀ (c:Bool) (vs:Nat->Value) (u:World),(i=xo->c=false)->C c u->(∀ j,j<i->Region.waitsFor .any ops i j=true->V j (vs j) u)->∀ o,ops[i]? =some o->o.guard=none/\actUpon2 P u (R i) (V i) ((execOp (textFrame ops vs a0 i).eval o).run P u)
variable {xo : Nat} {h N : Nat} {R : Nat → World → World → Prop} {V : Nat → Value → World → Prop} {a0 : Act}
theorem xzoc (hsel:Region.noSelect ops=true)(hh:h<=ops.size)(hD:distinctB ops h N=true)(hK:looksB ops h h=true)(hN:a0.tmps.size=N)
 (hCs:∀ i c u u',i<h->(i=xo->c=false)->C c u->R i u u'->C (c||decide (i=xo)) u')(hVs:∀ i j v u u',i<h->j<h->i≠j->V i v u->R j u u'->V i v u'){Q:Exit->Act->World->Prop}{listed:Array Bool}{a:Act}{u:World}(hst:StandsU ops xo C h V a0 listed a u)
 {i:Nat} (hi:i<h) (hr:i∈Region.ready .any ops listed) (hv:StepU P ops xo C R V a0 i):
 wpOp P ops Q i (fun a' u'=>StandsU ops xo C h V a0 (listed.setIfInBounds i true) a' u') a u:=by
 obtain⟨inv,vs,hc,hC,hV⟩:=hst;have hcc:=xzci hD hN hh vs i (by omega);obtain⟨hun,o',ho',hall⟩:=mem_ready.1 hr;have hunf:=getD_both hun
 have hlt:=fun j hj=>xzdm inv j hj
 have hsz:a.tmps.size=(textFrame ops vs a0 i).tmps.size:=hc.2.1.trans hcc.2.1.symm
 have hwait:∀ j,j<i->Region.waitsFor .any ops i j=true->listed.getD j false=true:=fun j _ h3=>by
  obtain⟨oi,hoi,e,he,hbd,hon⟩:=Region.waitsFor_spec h3;obtain rfl:oi=o':=Option.some.inj (hoi.symm.trans ho');have hl:=hall e he hbd;rw [hon]at hl;exact hl
 have hlook:∀ t∈o'.looksAt ops,a.tmps.getD t undef=(textFrame ops vs a0 i).tmps.getD t undef:=fun t ht=>by
  by_cases hwr:∃ j oj,j<h/\ops[j]? =some oj/\oj.dst=some t/\j≠i
  ·obtain⟨j,oj,hj,hoj,hd,hne⟩:=hwr
   obtain⟨h1,h2,h3⟩:=xzcw hK hi ho' ht hj hoj hd hne;have hl:=hwait j h1 h3;rw [hc.2.2.1 j oj t hoj hl hd,hcc.2.2.1 j oj t hoj (by simpa using h1) hd]
  ·have hn1:∀ j oj,ops[j]? =some oj->listed.getD j false=true->oj.dst≠some t:=fun j oj hoj hl hd=>by
    by_cases e:j=i
    ·subst e;rw [hunf]at hl;cases hl
    ·exact hwr ⟨j,oj,hlt j hl,hoj,hd,e⟩
   have hn2:∀ j oj,ops[j]? =some oj->decide (j<i)=true->oj.dst≠some t:=fun j oj hoj hl hd=>
    hwr ⟨j,oj,by have:=of_decide_eq_true hl;omega,hoj,hd,by have:=of_decide_eq_true hl;omega⟩
   rw [hc.2.2.2 t hn1,hcc.2.2.2 t hn2]
 obtain⟨hex,hwa⟩:=xzeq (ops:=ops) (Region.noSelect_spec hsel i o' · · ho') hsz hlook
 have hset:∀ (x:Value) (u':World),R i u u'->V i x u'->StandsU ops xo C h V a0 (listed.setIfInBounds i true) (a.put o'.dst x) u':=fun x u' hbu hx=>by
  refine⟨inv.set hr (by omega),fun j=>if j=i then x else vs j,?_,?_,fun j h1 h3=>?_⟩
  ·refine hc.put hD hN (fun j hj=>hlt j hj) hi ho' hunf x (fun j=>?_) (fun j hj=>?_) (by simp)
   ·by_cases e:j=i
    ·subst e
     have:j<listed.size:=by rw [inv.size];omega
     simp [this]
    ·rw [getD_set_ne false (Ne.symm e)];simp [e]
   ·have hne:j≠i:=fun e=>by subst e;rw [hunf]at hj;cases hj
    simp [hne]
  ·have hi2:i<listed.size:=by rw [inv.size];omega
   have hcs:=hCs i _ _ _ hi (fun e=>by rw [<-e];exact hunf) hC hbu
   have eq:(listed.setIfInBounds i true).getD xo false=(listed.getD xo false||decide (i=xo)):=by
    by_cases e:i=xo
    ·subst e;simp [hi2]
    ·rw [getD_set_ne false e];simp [e]
   rw [eq];exact hcs
  ·by_cases e:j=i
   ·subst e;simpa using hx
   ·rw [getD_set_ne false (Ne.symm e)]at h3
    simp only [if_neg e];exact hVs j i _ _ _ h1 hi e (hV j h1 h3) hbu
 obtain⟨hg,hf⟩:=hv _ vs u (fun e=>by rw [<-e];exact hunf) hC (fun j hj hw=>hV j (by omega) (hwait j hj hw)) o' ho';unfold wpOp;simp only [ho']
 have hw:Region.wanted o' (yielded ops a.tmps)=true:=by unfold Region.wanted;rw [hg]
 rw [if_pos hw];refine .inl ?_;rw [<-hex]at hf;unfold Oper.wp;generalize(execOp a.eval o').run P u=r at hf
 cases r with
 |ok nx w'=>
  cases nx<;>simp only [actUpon2]at hf<;>simp only [Oper.upon]
  case value x=>exact hset x w' hf.1 hf.2
  case skip=>exact hset undef w' hf.1 hf.2
  case enter f args=>
   obtain⟨rfl,hcall⟩:=hf
   exact hcall.mono fun e w'' ⟨v,he,hbw,hvw⟩=>by subst he;exact hset v w'' hbw hvw
 |halt x w'=>simp only [actUpon2]at hf
theorem xzvt {Q:Exit->Act->World->Prop}(hB:freeB ops h h N=true)(hN:a0.tmps.size=N)(hCs:∀ i c u u',i<h->(i=xo->c=false)->C c u->R i u u'->C (c||decide (i=xo)) u')(hVs:∀ i j v u u',i<h->j<h->i≠j->V i v u->R j u u'->V i v u')
 (hS:∀ i,i<h->StepU P ops xo C R V a0 i)
 (hend:∀ a u,StandsU ops xo C h V a0 (headArr ops.size h) a u->wpList P ops Q (ops.toList.drop h) a u):
 ∀ (d:Nat) (listed:Array Bool) (a:Act) (u:World),toCome listed h=d->StandsU ops xo C h V a0 listed a u->wpAny P .any ops Q (d+(ops.size - h)) listed a u:=by
 simp only [freeB,Bool.and_eq_true,Bool.or_eq_true,decide_eq_true_eq]at hB;obtain⟨⟨⟨⟨⟨⟨⟨hsel,hnh⟩,hh⟩,hD⟩,hK⟩,hA⟩,hT⟩,hSq⟩:=hB;intro d
 induction d with
 |zero=>
  intro listed a u hd hst;have hl:=xzcz hst.1 (xzcx hd);subst hl;have:=wpAny_of_seq (md:=.any) (Q':=Q) (ops.toList.drop h) h (headArr ops.size h) a u (fun j=>by simp) (by simpa using hSq) (hend a u hst)
  simpa using this
 |succ d ih=>
  intro listed a u hd hst
  have hex:∃ i,i<h/\listed.getD i false=false:=by
   have hpos:0<((List.range h).filter fun i=> !listed.getD i false).length:=by unfold toCome at hd;omega
   obtain⟨i,hi⟩:=List.exists_mem_of_length_pos hpos;rw [List.mem_filter]at hi;exact⟨i,List.mem_range.1 hi.1,by simpa using hi.2⟩
  obtain⟨i0,hi0,hu0⟩:=hex;have hs:=hst.1.size;obtain⟨j0,hj0⟩:=xzcy hh hA hs i0 i0 (Nat.le_refl _) hi0 hu0;rw [show d+1+(ops.size - h)=(d+(ops.size - h))+1 by omega];refine⟨fun he=>(by rw [he]at hj0;cases hj0),fun i hi=>?_⟩
  have hil:i<ops.size:=by
   obtain⟨_,o,ho,_⟩:=mem_ready.1 hi;exact(Array.getElem?_eq_some_iff.1 ho).1
  have hih:i<h:=by
   rcases Nat.lt_or_ge i h with hlt|hge
   ·exact hlt
   ·rcases hT with hT|hT
    ·omega
    ·exact absurd hi (tail_waits hT.1 hT.2 (by omega) hst.1 (h - i0) i0 rfl hi0 (getD_in (by omega) hu0) i hge)
  have hun:=getD_both (mem_ready.1 hi).1;have hset:=xzdr hih (by omega) hun;exact wpOp_mono (fun a' u' hst'=>ih _ a' u' (by omega) hst') (xzoc hsel hh hD hK hN hCs hVs hst hih hi (hS i hih))
theorem xzeg {id:Nat}{l:List Oper}{Q:Exit->Act->World->Prop}{a:Act}{w:World}(h N:Nat)(xo:Nat)(C:Bool->World->Prop)(R:Nat->World->World->Prop)(V:Nat->Value->World->Prop)
 (hm:P.follows .mixedOrders=true)(hB:freeB l.toArray h h N=true)(hN:a.tmps.size=N)(hC0:C false w.drew)(hCs:∀ i c u u',i<h->(i=xo->c=false)->C c u->R i u u'->C (c||decide (i=xo)) u')(hVs:∀ i j v u u',i<h->j<h->i≠j->V i v u->R j u u'->V i v u')
 (hS:∀ i,i<h->StepU P l.toArray xo C R V a i)
 (hE:∀ (vs:Nat->Value) (u:World),C (decide (xo<h)) u->(∀ i,i<h->V i (vs i) u)->wpList P l.toArray Q (l.drop h) (textFrame l.toArray vs a h) u):(Code.region id l.toArray true).wp P Q a w:=by
 have hB':=hB;simp only [freeB,Bool.and_eq_true,Bool.or_eq_true,decide_eq_true_eq]at hB';obtain⟨⟨⟨⟨⟨⟨⟨hsel,hnh⟩,hh⟩,hD⟩,hK⟩,hA⟩,hT⟩,hSq⟩:=hB';refine wp_region_any hm ?_
 have inv0:HeadInv .any l.toArray h (Array.replicate l.toArray.size false):=
  ⟨by simp,fun j oj _ hl=>(by rw [getD_replicate_false]at hl;cases hl),fun t _ ht=>getD_in (by simpa using ht) (getD_replicate_false _ _)⟩
 have hst0:StandsU l.toArray xo C h V a (Array.replicate l.toArray.size false) a w.drew:=by
  refine⟨inv0,fun _=>undef,⟨rfl,rfl,fun i o t _ hi=>?_,fun _ _=>rfl⟩,by rw [getD_replicate_false];exact hC0,fun i _ hl=>?_⟩
  ·have hi':(Array.replicate l.toArray.size false).getD i false=true:=hi
   rw [getD_replicate_false]at hi';cases hi'
  ·rw [getD_replicate_false]at hl;cases hl
 have hcome:toCome (Array.replicate l.toArray.size false) h=h:=by
  unfold toCome;rw [List.filter_eq_self.2 (fun i _=>by rw [getD_replicate_false];rfl)]
  simp
 have:=xzvt (P:=P) (Q:=Q) hB hN hCs hVs hS (fun a' u hst=>?_) h _ a w.drew hcome hst0
 ·rw [show h+(l.toArray.size - h)=l.toArray.size by omega]at this
  exact this
 ·obtain⟨inv,vs,hc,hC,hV⟩:=hst
  have hg:∀ i,i<h->(headArr l.toArray.size h).getD i false=true:=fun i hi=>by rw [xzbp,if_pos (by omega)];simpa using hi
  have hcall:Came l.toArray (fun j=>decide (j<h)) vs a a':=by
   refine⟨hc.1,hc.2.1,fun i o t ho hi ht=>hc.2.2.1 i o t ho (hg i (of_decide_eq_true hi)) ht,fun t ht=>hc.2.2.2 t fun i o ho hi=>ht i o ho ?_⟩;have:=xzdm inv i hi
   simpa using this
  have he:=hcall.unique (xzci hD hN hh vs h (Nat.le_refl _)) (fun _ _=>rfl);subst he;rw [show(headArr l.toArray.size h).getD xo false=decide (xo<h)from ?_]at hC
  ·simpa using hE vs u hC (fun i hi=>hV i hi (hg i hi))
  ·rw [xzbp]
   split
   ·rfl
   ·exact(decide_eq_false (by omega)).symm
end turn
end
end Go.Proofs.YtdjpphjpnkfeiaaGreatDoor
