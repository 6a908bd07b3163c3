/-
 A TREE WRITTEN OUT (hackleref08's out): what is repeated: rows of nodes, pure parts. No condition.
-/
import Derived.Test.YthoaaginadjaoaaQG39
import Derived.Test.YthoaaginadjaoaaQG05
namespace Go.Proofs.Ythoaaginadjaoaa
open Go.RowKit
attribute [local irreducible] FreeW
theorem xzth (f:Nat->Bud×Nat):∀ (c n:Nat),cpN f (c+1) n=((cpN f c n).1++[(f (cpN f c n).2).1],(f (cpN f c n).2).2)
 |0,n=>rfl
 |c+1,n=>by
  have:=xzth f c (f n).2;rw [cpN,this];simp only [cpN,List.cons_append]
theorem xzqa (a:Bud):∀ L:List Bud,plsLast (L++[a])=L++[.pls a]
 |[]=>rfl
 |[b]=>rfl
 |b::c::r=>by
  have:=xzqa a (c::r);simp only [List.cons_append,plsLast]at this ⊢;rw [this]
def NdL (W:World)(Ns:List Bud)(xs:List Value):Prop:=xs.length=Ns.length/\∀ (i:Nat) (h:i<Ns.length),∃ A,xs[i]? =some (.pointer A)/\BudAt W Ns[i] (.pointer A)
theorem NdL.nil (W:World):NdL W [] []:=⟨rfl,fun i h=>by simp at h⟩
theorem NdL.kept {W W':World}{Ns:List Bud}{xs:List Value}(h:NdL W Ns xs)(hk:∀ k cs,BlkIs W k 81 cs->BlkIs W' k 81 cs):NdL W' Ns xs:=⟨h.1,fun i hi=>by
 obtain⟨A,h1,h2⟩:=h.2 i hi
 exact⟨A,h1,h2.kept hk⟩⟩
theorem NdL.step {W W':World}{Ns:List Bud}{xs:List Value}(h:NdL W Ns xs)(hb:Below W.heap.size W W'):NdL W' Ns xs:=h.kept fun _ _ hk=>hk.step hb
theorem NdL.snoc {W:World}{Ns:List Bud}{xs:List Value}(h:NdL W Ns xs){N:Bud}{A:Option Addr}(hx:BudAt W N (.pointer A)):NdL W (Ns++[N]) (xs++[.pointer A]):=by
 refine⟨by simp [h.1],fun i hi=>?_⟩;simp only [List.length_append,List.length_singleton]at hi;have hl:=h.1
 by_cases hil:i<Ns.length
 ·obtain⟨A2,h1,h2⟩:=h.2 i hil
  refine⟨A2,?_,?_⟩
  ·rw [List.getElem?_append_left (by omega)];exact h1
  ·rw [List.getElem_append_left hil];exact h2
 ·obtain rfl:i=Ns.length:=by omega
  refine⟨A,?_,by simpa using hx⟩;rw [List.getElem?_append_right (by omega)];simp [hl]
theorem NdL.init {W:World}{Ns:List Bud}{N:Bud}{xs:List Value}(h:NdL W (Ns++[N]) xs):∃ ys A,xs=ys++[.pointer A]/\NdL W Ns ys/\BudAt W N (.pointer A):=by
 have hl:=h.1;simp only [List.length_append,List.length_singleton]at hl;obtain⟨A,h1,h2⟩:=h.2 Ns.length (by simp)
 have hd:xs.drop Ns.length=[.pointer A]:=by
  rw [List.drop_eq_getElem_cons (by omega),List.drop_of_length_le (by omega)];rw [List.getElem?_eq_getElem (by omega)]at h1
  injection h1 with h1
  rw [h1]
 have hlast:xs=xs.take Ns.length++[.pointer A]:=by
  rw [<-hd];exact(List.take_append_drop _ _).symm
 refine⟨_,A,hlast,⟨by simp;omega,fun i hi=>?_⟩,by simpa using h2⟩;obtain⟨A2,g1,g2⟩:=h.2 i (by simp;omega);refine⟨A2,?_,?_⟩
 ·rw [List.getElem?_take_of_lt hi];exact g1
 ·rw [List.getElem_append_left hi]at g2;exact g2
theorem On.grown {g B:Nat}{w u u':World}{ob:Option Nat}(h:On g w u)(hg:u.grownBy u' ob)(hob:∀ k,ob=some k->B<=k)(hB:w.heap.size<=B):On g w u':=
 ⟨hg.os.trans h.os,hg.tape.trans h.tape,hg.output.trans h.output,Nat.le_trans h.size hg.size,fun k hk hkg=>(hg.block k (Nat.lt_of_lt_of_le hk h.size) (fun e=>by have:=hob k e.symm;omega)).trans (h.block k hk hkg)⟩
theorem xzlr {B:Nat}{W:World}{v:Value}{n:Nat}{xs:List Value}(hown:W.ownsRow B 55 1 v n xs){b c:Nat}{x:Value}(hnew:W.cell? ⟨b,0,none⟩=some x)(h1:x.oneCell'=true)(hl:n+1<=1073741824)(hB:B<=W.heap.size):
 ∃ v' W',(Builtin.append_ #[54,54] 54 #[v,.slice (some ⟨b,0,none⟩) 1 c]).run Try.prog W=.ok v' W'/\W'.ownsRow B 55 1 v' (n+1) (xs++[x])/\W.grownBy W' v.ownBlock:=by
 obtain⟨i0,hi0,hz0,hz1,hz2⟩:=info_parts (show(Try.prog.info? 55).map (fun i=>(i.zero,i.size,i.bytes))=some (some (.pointer none),1,8)by kernel_rfl)
 have hnw:∀ j u,[x][j]? =some u->W.cell? ((⟨b,0,none⟩:Addr).add j)=some u:=fun j u hu=>by
  cases j with
  |zero=>
   simp only [List.getElem?_cons_zero,zh]at hu;subst hu;rw [Addr.add_lit];exact hnew
  |succ j=>simp at hu
 have hone:∀ u∈[x],u.oneCell'=true:=fun u hu=>by rw [List.mem_singleton.1 hu];exact h1
 obtain⟨v',W',hr,h2,h3,_,h4⟩:=run_append_own_at (P:=Try.prog) (w:=W) B 54 54 55 i0 _ 1 8 Try.underlying54 hi0 hz0 hz1 hz2 rfl (by decide) v n xs hown
  ⟨b,0,none⟩ 1 c [x] rfl hnw hone (by unfold maxLen;omega) (by omega) hB
 exact⟨v',W',hr,h2,h3⟩
def RowB (W:World)(g:Nat)(xs:List Value):Prop:=∃ cur:Array Value,BlkIs W g 55 cur/\cur.toList.take xs.length=xs
theorem RowB.step {W W':World}{g:Nat}{xs:List Value}(h:RowB W g xs)(hb:Below W.heap.size W W'):RowB W' g xs:=by
 obtain⟨cur,h1,h2⟩:=h;exact⟨cur,h1.step hb,h2⟩
theorem RowB.at {W:World}{g i:Nat}{xs:List Value}(h:RowB W g xs){x:Value}(hx:xs[i]? =some x):W.cell? ⟨g,i,none⟩=some x:=by
 obtain⟨cur,h1,h2⟩:=h;have hi:i<xs.length:=(List.getElem?_eq_some_iff.1 hx).1;rw [h1.cell i,<-Array.getElem?_toList,<-hx];rw [<-List.getElem?_take_of_lt hi,h2]
theorem RowB.frozen {W:World}{g:Nat}{xs:List Value}(h:RowB W g xs)(i:Nat):W.frozen? ⟨g,i,none⟩=false:=by
 obtain⟨cur,h1,h2⟩:=h;exact h1.frozen i
theorem RowB.put {W:World}{g i:Nat}{xs:List Value}(h:RowB W g xs)(y:Value):RowB (W.setCell ⟨g,i,none⟩ y) g (xs.set i y):=by
 obtain⟨cur,h1,h2⟩:=h;refine⟨_,h1.put i y,?_⟩;rw [List.length_set,Array.toList_setIfInBounds,List.take_set,h2]
theorem RowB.of {B:Nat}{W:World}{v:Value}{n:Nat}{xs:List Value}(h:W.ownsRow B 55 1 v n xs)(hn:0<n):∃ g cap,v=.slice (some ⟨g,0,none⟩) n cap/\B<=g/\n<=cap/\cap<=9223372036854775807/\RowB W g xs:=by
 have hl:=h.1
 rcases h.2 with⟨_,e⟩|⟨g,cap,cur,rfl,h1,h2,h3,h4,h5,h6⟩
 ·omega
 ·refine⟨g,cap,rfl,h1,h3,by unfold maxLen at h4;omega,cur,h2,?_⟩
  rw [<-h6];simp only [List.length_take,Nat.mul_one]at*;rw [show min n cur.toList.length=n by rw [Array.length_toList];omega]
end Go.Proofs.Ythoaaginadjaoaa
namespace Go.Proofs.Ythoaaginadjaoaa
open Go.RowKit
attribute [local irreducible] FreeW
theorem xzct {B k n:Nat}{W:World}{v:Value}{xs:List Value}{t:TypeId}{cs:Array Value}(h:W.ownsRow B 55 1 v n xs)(hk:BlkIs W k t cs)(ht:t≠55):some k≠v.ownBlock:=by
 rcases h.2 with⟨rfl,_⟩|⟨g,cap,cur,rfl,h1,h2,_⟩
 ·intro e;simp [Value.ownBlock]at e
 ·intro e
  simp [Value.ownBlock]at e
  exact xzdj hk (show BlkIs W g 55 cur from h2) ht e
theorem BlkIs.grown {W W':World}{k:Nat}{t:TypeId}{cs:Array Value}{ob:Option Nat}(h:BlkIs W k t cs)(hg:W.grownBy W' ob)(hk:some k≠ob):BlkIs W' k t cs:=(hg.block k h.lt hk).trans h
structure RepS (cb B:Nat)(box cnt:Array Value)(g:Nat)(Ns:List Bud)(ys:List Value)(w u:World):Prop where
 on:On cb w u
 box:BlkIs u B 39 box
 cnt:BlkIs u cb 3 cnt
 row:RowB u g ys
 nd:NdL u Ns ys
theorem RepS.step {cb B g:Nat}{box cnt:Array Value}{Ns:List Bud}{ys:List Value}{w u u':World}(h:RepS cb B box cnt g Ns ys w u)(hb:Below u.heap.size u u'):RepS cb B box cnt g Ns ys w u':=
 ⟨h.on.trans (On.of hb),h.box.step hb,h.cnt.step hb,h.row.step hb,h.nd.step hb⟩
theorem RepS.last {cb B g n:Nat}{box cnt:Array Value}{Ns:List Bud}{N:Bud}{ys:List Value}{A:Option Addr}{w u:World}(h:RepS cb B box cnt g (Ns++[N]) (ys++[.pointer A]) w u)(hl:ys.length=n)(hB:B≠g)(hc:cb≠g)(hw:w.heap.size<=g){k:Nat}(hp:BudAt u (.pls N) (.pointer (some ⟨k,0,none⟩))):
 RepS cb B box cnt g (Ns++[.pls N]) (ys++[.pointer (some ⟨k,0,none⟩)]) w (u.setCell ⟨g,n,none⟩ (.pointer (some ⟨k,0,none⟩))):=by
 have hty:∀ k2 cs,BlkIs u k2 81 cs->BlkIs (u.setCell ⟨g,n,none⟩ (.pointer (some ⟨k,0,none⟩))) k2 81 cs:=fun k2 cs hk=>by
  obtain⟨cur,h1,_⟩:=h.row;exact hk.far (xzdj hk h1 (by decide)) _
 have hset:(ys++[Value.pointer A]).set n (.pointer (some ⟨k,0,none⟩))=ys++[.pointer (some ⟨k,0,none⟩)]:=by
  subst hl
  simp
 have h2:NdL u Ns ys:=by
  obtain⟨zs,A3,e,g1,_⟩:=NdL.init h.nd;have:=List.append_inj_left' e rfl;rw [this];exact g1
 exact⟨⟨h.on.os,h.on.tape,h.on.output,by rw [World.size_setCell];exact h.on.size,fun k3 hk3 hkc=>(Below.heap_setCell _ _ _ _ (by show k3≠g;omega)).trans (h.on.block k3 hk3 hkc)⟩,h.box.far hB _,h.cnt.far hc _,by rw [<-hset];exact h.row.put _,(h2.kept hty).snoc (hp.kept hty)⟩
theorem zeros8:(0:Int)=(wd no8 0:Nat)/\(0:Int)=(wd no8 1:Nat)/\(0:Int)=(wd no8 2:Nat)/\(0:Int)=(wd no8 3:Nat):=⟨by decide+kernel,by decide+kernel,by decide+kernel,by decide+kernel⟩
def zC (k:Int)(x y:Value):Array Value:=#[.int .i64 k,.int .i64 0,.int .u64 0,.int .u64 0,.int .u64 0,.int .u64 0,x,y]
theorem zC_nd (k:Nat)(x y:Value):zC k x y=ndC k 0 no8 x y:=by
 unfold zC ndC;rw [<-zeros8.1,<-zeros8.2.1,<-zeros8.2.2.1,<-zeros8.2.2.2];rfl
theorem z_e {u:World}{k:Nat}(h:BlkIs u k 81 (zC 0 (.pointer none) (.pointer none))):BudAt u .e (.pointer (some ⟨k,0,none⟩)):=⟨k,rfl,by rw [<-zC_nd 0];exact h⟩
theorem z_cat {u:World}{k:Nat}{a b:Bud}{x y:Value}(h:BlkIs u k 81 (zC 2 x y))(h1:BudAt u a x)(h2:BudAt u b y):BudAt u (.cat a b) (.pointer (some ⟨k,0,none⟩)):=⟨k,x,y,rfl,by rw [<-zC_nd 2];exact h,h1,h2⟩
theorem z_alt {u:World}{k:Nat}{a b:Bud}{x y:Value}(h:BlkIs u k 81 (zC 3 x y))(h1:BudAt u a x)(h2:BudAt u b y):BudAt u (.alt a b) (.pointer (some ⟨k,0,none⟩)):=⟨k,x,y,rfl,by rw [<-zC_nd 3];exact h,h1,h2⟩
theorem z_pls {u:World}{k:Nat}{a:Bud}{x:Value}(h:BlkIs u k 81 (zC 4 x (.pointer none)))(h1:BudAt u a x):BudAt u (.pls a) (.pointer (some ⟨k,0,none⟩)):=⟨k,x,rfl,by rw [<-zC_nd 4];exact h,h1⟩
set_option maxRecDepth 20000 in
set_option maxHeartbeats 16000000 in
theorem xzvc (m:Nat->Bool)(t:Tree)(lo hi:Int)(hok:(Tree.node 4 m [t] lo hi).ok=true)(hn:(Tree.node 4 m [t] lo hi).nodes<=1048576)(h0:(Tree.node 4 m [t] lo hi).plN≠0)(IH:OutIs t):OutIs (.node 4 m [t] lo hi):=by
 intro v w cb n0 hat hcb hN;have hop:=xzcb hok
 have hlh:0<=lo/\lo<=64/\(hi= -1\/(lo<=hi/\hi<=64)):=by
  have h2:=hop.2;unfold okNode at h2
  simp at h2
  omega
 have hokT:t.okT:=xzcw _ (hop.1 t (by simp));obtain⟨C,hC⟩:∃ C,C=(copiesI lo hi).toNat:=⟨_,rfl⟩
 have hpn:(Tree.node 4 m [t] lo hi).plN=t.plN*C:=by
  have e:∀ l:List Tree,(Tree.node 4 m l lo hi).plN=((if(4:Int)=1 then 1 else 0)+sumN l)*(if(4:Int)=4 then(copiesI lo hi).toNat else 1):=fun l=>by unfold Tree.plN;rfl
  rw [e,hC]
  simp [sumN]
 have hCf:(C:Int)=copiesI lo hi/\1<=C/\C<=64:=by
  have h1:C≠0:=fun e=>h0 (by rw [hpn,e];rfl)
  unfold copiesI at hC ⊢
  split at hC
  ·rename_i h;rw [if_pos h];omega
  ·rename_i h;rw [if_neg h];omega
 have hp0:(Tree.node 4 m [t] lo hi).places≠0:=fun e=>h0 ((xzex hok).1 e)
 have hpl:=fun(u:World) (hu:Below w.heap.size w u)=>xzbt _ hok hn v u (hat.step hu)
 obtain⟨pz,hpz⟩:∃ pz,pz=(Tree.node 4 m [t] lo hi).places:=⟨_,rfl⟩;rw [<-hpz]at hpl hp0
 have hpe:(pz==0)=false:=by simp;exact hp0
 rw [hpn]at hN;obtain⟨f,hf⟩:∃ f,f=headOut [t]:=⟨_,rfl⟩
 have hf2:∀ n,(f n).2=n+t.plN:=fun n=>by rw [hf];exact xzhu t n hokT
 have hout:(outT (Tree.node 4 m [t] lo hi) n0).1=repN lo.toNat (if hi<0 then plsLast (cpN f C n0).1 else(cpN f C n0).1):=by
  unfold outT;rw [if_neg h0,if_neg (by decide),if_neg (by decide),if_neg (by decide),hC,hf]
 have HPOST:=zd (fun(x:Value) (u:World) (hu:On cb w u) (hx:BudAt u (repN lo.toNat (if hi<0 then plsLast (cpN f C n0).1 else(cpN f C n0).1)) x) (hc:BlkIs u cb 3 #[.int .i64 ((n0+t.plN*C:Nat):Int)])=>(show OutsIs cb n0 (Tree.node 4 m [t] lo hi) w (.returned x) u from⟨⟨x,rfl,by rw [hout];exact hx⟩,hu,by rw [hpn];exact hc⟩))
 have HCP:=zd (fun(j:Nat)=>(show(cpN f (j+1) n0).1=(cpN f j n0).1++[(f (n0+t.plN*j)).1]/\(cpN f j n0).1.length=j by
  have h1:=cpN_n f t.plN hf2 j n0;rw [xzth,h1.1]
  exact⟨rfl,h1.2⟩))
 have HMU:=zd (fun(j:Nat) (h:j<C)=>(show n0+t.plN*j+t.plN<=1048576 by
  have:t.plN*(j+1)<=t.plN*C:=Nat.mul_le_mul_left _ h;rw [Nat.mul_succ]at this
  omega))
 obtain⟨A,c,rfl,hcc,hrows⟩:=hat.open;obtain⟨b,o,rfl,hbw,hg⟩:=hrows (by simp);obtain⟨cs,hcat,hlen,hrow⟩:=hg 0 (by simp);simp only [List.getElem_cons_zero,Nat.zero_mul,Nat.add_zero]at hcat hrow
 have hbc:b≠cb:=fun e=>by
  have h5:=hrow 1 cs[1] (by rw [List.getElem?_eq_getElem]);have h6:=hcb.cell (o+1);rw [e]at h5;rw [h5]at h6
  simp at h6
 have HCAT:=zd (fun(u:World) (hu:On cb w u) (n:Nat) (hc:BlkIs u cb 3 #[.int .i64 (n:Nat)]) (hb:n+t.plN<=1048576)=>(show Calls Try.prog 27 #[.agg cs.toArray,.pointer (some ⟨cb,0,none⟩)] u (fun e w'=>(∃ x,e=.returned x/\BudAt w' (f n).1 x)/\On cb u w'/\BlkIs w' cb 3 #[.int .i64 ((n+t.plN:Nat):Int)])from by
  rw [hf]
  exact IH (.agg cs.toArray) u cb n (Tree.At.on t hu hcb hcat) hc hb))
 obtain⟨A',n',c',rfl⟩:=hcat.eight
 have HRW:=zd (fun(u:World) (hu:On cb w u)=>(show _/\_/\_/\_/\_/\_/\_/\_ from by
  obtain⟨r0,r1,r2,r3,r4,r5,r6,r7⟩:=xzaj hrow (Below.refl _ _)
  exact⟨hu.cell hbc r0,hu.cell hbc r1,hu.cell hbc r2,hu.cell hbc r3,hu.cell hbc r4,hu.cell hbc r5,hu.cell hbc r6,hu.cell hbc r7⟩))
 have hB0:Below w.heap.size w (w.alloc (.cells (reL 4 m (some ⟨b,o,none⟩) 1 c lo hi).toArray 39)):=(Below.refl _ _).alloc (Nat.le_refl _) _;have hX0:=BlkIs.new w 39 (reL 4 m (some ⟨b,o,none⟩) 1 c lo hi).toArray
 have hs0:w.heap.size+1<=(w.alloc (.cells (reL 4 m (some ⟨b,o,none⟩) 1 c lo hi).toArray 39)).heap.size:=by rw [World.size_alloc];exact Nat.le_refl _
 have HPL:=zd hpl;have HB0:=zd hB0;have HX0:=zd hX0
 have hne:w.heap.size≠cb:=fun e=>by have:=hcb.lt;omega
 have HCB:=zd hcb;have HNE:=zd hne;have HS0:=zd hs0;have HLH:=zd (And.intro hlh hCf);have hc64:C<=64:=hCf.2.2;have hc1:1<=C:=hCf.2.1;clear hat hpl hB0 hX0 hpz hp0 h0 hop hpn hrows hg hne hbc hcb IH hokT hok hn hcat hlen hrow hcc hbw hC hf hf2 hout hs0 hlh hCf;unfold reV reL at*;obtain⟨d0,d1,d2,d3,d4,d5,d6,d7⟩:=HX0.out.eight
 go_enter Try.func27,Try.ntmps27
 go_wp2_with fail
 go_at_call 8
 refine(HPL.out _ HB0.out).mono ?_;rintro e u1 ⟨rfl,hb1⟩;have HB1:=zd (HB0.out.trans (hb1.mono HB0.out.size));have HX1:=zd (HX0.out.step hb1);have HS1:=zd (Nat.le_trans HS0.out hb1.size);clear hb1 d0 d1 d2 d3 d4 d5 d6 d7 HX0 HB0 HPL HS0;obtain⟨d0,d1,d2,d3,d4,d5,d6,d7⟩:=HX1.out.eight;go_wp2
 go_loopw [7,8] (fun r i wr=>∃ j:Nat,i=.int .i64 j/\j<=C/\Hid (On cb w wr/\BlkIs wr w.heap.size 39 #[.int .i64 4,.int .u64 (wd m 0:Nat),.int .u64 (wd m 1:Nat),.int .u64 (wd m 2:Nat),.int .u64 (wd m 3:Nat),.slice (some ⟨b,o,none⟩) 1 c,.int .i64 lo,.int .i64 hi]/\BlkIs wr cb 3 #[.int .i64 ((n0+t.plN*j:Nat):Int)]/\w.heap.size+1<=wr.heap.size/\∃ xs,wr.ownsRow (w.heap.size+1) 55 1 r j xs/\NdL wr (cpN f j n0).1 xs)) (fun _ i _=>C - (intOf i).toNat)
 case atStart=>exact⟨0,rfl,Nat.zero_le _,zd ⟨On.of HB1.out,HX1.out,HCB.out.step HB1.out,HS1.out,[],World.ownsRow_nil _ _ _ _,NdL.nil _⟩⟩
 case round=>
  obtain⟨j,rfl,hj,HH⟩:=hrel;clear HX1 HB1 HS1;obtain⟨d0,d1,d2,d3,d4,d5,d6,d7⟩:=HH.out.2.1.eight
  by_cases hp:j<C
  ·have hk1:IntKind.i64.wrap ((j:Int)+1)=((j+1:Nat):Int):=by rw [IntKind.wrap_i64];omega
   have h3:(decide ((j:Int)<lo)=true)\/(decide ((j:Int)<lo)=false/\decide ((j:Int)<hi)=true)\/(decide ((j:Int)<lo)=false/\decide ((j:Int)<hi)=false/\decide ((j:Int)<1)=true):=by
    have h1:=HLH.out;unfold copiesI at h1;simp only [decide_eq_true_eq,decide_eq_false_iff_not]
    split at h1<;>omega
   obtain⟨g1,g2,g3,g4,xs,g5,g6⟩:=HH.out;clear HH;obtain⟨q0,q1,q2,q3,q4,q5,q6,q7⟩:=HRW.out wr g1;have hcx:=HCAT.out wr g1 _ g3 (HMU.out j hp);have HCX:=zd hcx;have HG:=zd (And.intro g1 (And.intro g2 (And.intro g3 (And.intro g4 (And.intro g5 g6)))));clear hcx g1 g2 g3 g4 g5 g6
   rcases h3 with h3|⟨h3,h4⟩|⟨h3,h4,h5⟩
   all_goals
    go_wp2_with fail
    go_at_call 27
    refine HCX.out.mono ?_;rintro e u2 ⟨⟨x2,rfl,hx2⟩,ho2,hc2⟩;obtain⟨A2,rfl⟩:=hx2.form;clear d0 d1 d2 d3 d4 d5 d6 d7 q0 q1 q2 q3 q4 q5 q6 q7;have hlow:∀ k,u7.ownBlock=some k->w.heap.size+1<=k/\k<wr.heap.size:=World.ownsRow.lt HG.out.2.2.2.2.1;have hcl:=HCB.out.lt;obtain⟨W9,hW9⟩:∃ W9,u2.alloc (.cells #[.pointer A2] 55)=W9:=⟨_,rfl⟩
    have hbA:Below u2.heap.size u2 W9:=by rw [<-hW9];exact(Below.refl _ _).alloc (Nat.le_refl _) _
    have hnewc:W9.cell? ⟨u2.heap.size,0,none⟩=some (.pointer A2):=by rw [<-hW9];exact(BlkIs.new u2 55 #[.pointer A2]).cell 0
    have hown9:W9.ownsRow (w.heap.size+1) 55 1 u7 j xs:=xzaq HG.out.2.2.2.2.1 fun k hk=>by
     have h9:=hlow k hk;exact(hbA.block k (Nat.lt_of_lt_of_le h9.2 ho2.size)).trans (ho2.block k h9.2 (by omega))
    obtain⟨v5,W5,hrun,hown5,hgr⟩:=xzlr (c:=1) hown9 hnewc rfl (by omega) (Nat.le_trans HG.out.2.2.2.1 (Nat.le_trans ho2.size hbA.size));have hbx9:=(ho2.blk HNE.out HG.out.2.1).step hbA;have hcb9:=hc2.step hbA
    have hnd9:NdL W9 (cpN f (j+1) n0).1 (xs++[.pointer A2]):=by
     rw [(HCP.out j).1];exact((HG.out.2.2.2.2.2.kept fun k cs hk=>ho2.blk (xzdj hk HG.out.2.2.1 (by decide)) hk).step hbA).snoc (hx2.step hbA)
    have HF:=zd (show On cb w W5/\BlkIs W5 w.heap.size 39 #[.int .i64 4,.int .u64 (wd m 0:Nat),.int .u64 (wd m 1:Nat),.int .u64 (wd m 2:Nat),.int .u64 (wd m 3:Nat),.slice (some ⟨b,o,none⟩) 1 c,.int .i64 lo,.int .i64 hi]/\BlkIs W5 cb 3 #[.int .i64 ((n0+t.plN*(j+1):Nat):Int)]/\w.heap.size+1<=W5.heap.size/\∃ xs,W5.ownsRow (w.heap.size+1) 55 1 v5 (j+1) xs/\NdL W5 (cpN f (j+1) n0).1 xs from
     ⟨((HG.out.1.trans ho2).trans (On.of hbA)).grown hgr (fun k hk=>(hlow k hk).1) (Nat.le_succ _),hbx9.grown hgr (xzct hown9 hbx9 (by decide)),by
       rw [Nat.mul_succ,<-Nat.add_assoc]
       exact hcb9.grown hgr (xzct hown9 hcb9 (by decide)),Nat.le_trans HG.out.2.2.2.1 (Nat.le_trans ho2.size (Nat.le_trans hbA.size hgr.size)),_,hown5,hnd9.kept fun k cs hk=>hk.grown hgr (xzct hown9 hk (by decide))⟩)
    rw [<-hW9]at hrun;clear hlow hcl hbA hnewc hown9 hown5 hgr hbx9 hcb9 hnd9 hW9 ho2 hc2 hx2 HCX HG
    go_wp2_with(refine xzal rfl _ _ 54 54 rfl rfl rfl hrun ?_)
    exact⟨⟨j+1,rfl,hp,HF⟩,by simp [intOf];omega⟩
  ·have hq1:decide ((j:Int)<lo)=false:=by
    have h1:=HLH.out;unfold copiesI at h1;simp only [decide_eq_false_iff_not]
    split at h1<;>omega
   have hq2:decide ((j:Int)<hi)=false:=by
    have h1:=HLH.out;unfold copiesI at h1;simp only [decide_eq_false_iff_not]
    split at h1<;>omega
   have hq3:decide ((j:Int)<1)=false:=by
    simp only [decide_eq_false_iff_not];omega
   obtain rfl:C=j:=by omega
   obtain⟨g1,g2,g3,g4,xs,g5,g6⟩:=HH.out;clear HH HRW HCAT HMU;obtain⟨g,cap,e7,hg7,hnc,hcap,hrow⟩:=RowB.of g5 hc1;subst e7;have hLl:=(HCP.out C).2;obtain⟨L,hL⟩:∃ L,L=(cpN f C n0).1:=⟨_,rfl⟩;rw [<-hL]at HPOST g6 hLl;clear hL HCP g5;obtain⟨Cp,rfl⟩:∃ Cp,C=Cp+1:=⟨C - 1,by omega⟩
   have hw1:IntKind.i64.wrap (((Cp+1:Nat):Int) - 1)=(Cp:Int):=by rw [IntKind.wrap_i64];omega
   have hw2:IntKind.i64.wrap ((Cp:Int)+1 - 1)=(Cp:Int):=by rw [IntKind.wrap_i64];omega
   have hq1':decide ((Cp:Int)+1<lo)=false:=hq1;have hq2':decide ((Cp:Int)+1<hi)=false:=hq2;have hq3':decide ((Cp:Int)+1<1)=false:=hq3
   have hci:(Cp:Int)<((Cp+1:Nat):Int):=by omega
   have hci2:(Cp:Int)<(Cp:Int)+1:=by omega
   have HR:=zd (show RepS cb w.heap.size #[.int .i64 4,.int .u64 (wd m 0:Nat),.int .u64 (wd m 1:Nat),.int .u64 (wd m 2:Nat),.int .u64 (wd m 3:Nat),.slice (some ⟨b,o,none⟩) 1 c,.int .i64 lo,.int .i64 hi] #[.int .i64 ((n0+t.plN*(Cp+1):Nat):Int)] g L xs w wr from⟨g1,g2,g3,hrow,g6⟩);have HGB:=zd (show w.heap.size≠g/\cb≠g/\w.heap.size<=g from⟨by omega,by have:=HCB.out.lt;omega,by omega⟩);clear g1 g2 g3 g4 g6 hrow hg7
   have hd6:∀ o,(wr.alloc o).cell? ⟨w.heap.size,6,none⟩=some (.int .i64 lo):=fun o=>(HR.out.box.alloc o).cell 6
   have hd7:∀ o,(wr.alloc o).cell? ⟨w.heap.size,7,none⟩=some (.int .i64 hi):=fun o=>(HR.out.box.alloc o).cell 7
   rcases Decidable.em (hi<0)with hneg|hneg
   have hnd:decide (hi<0)=true:=decide_eq_true hneg;simp only [if_pos hneg]at HPOST;obtain⟨L0,N,rfl⟩:∃ L0 N,L=L0++[N]:=⟨L.dropLast,L.getLast (by intro e;rw [e]at hLl;simp at hLl),(List.dropLast_concat_getLast _).symm⟩;obtain⟨ys,A9,rfl,hy1,hy2⟩:=NdL.init HR.out.nd
   have hyl:ys.length=Cp:=by have:=hy1.1;simp at hLl;omega
   have hrc:∀ o,(wr.alloc o).cell? ⟨g,Cp,none⟩=some (.pointer A9):=fun o=>(HR.out.step ((Below.refl _ _).alloc (Nat.le_refl _) o)).row.at (i:=Cp) (x:=.pointer A9) (by rw [<-hyl];simp)
   have hrc2:∀ o o2,((wr.alloc o).alloc o2).cell? ⟨g,Cp,none⟩=some (.pointer A9):=fun o o2=>((HR.out.step ((Below.refl _ _).alloc (Nat.le_refl _) o)).step ((Below.refl _ _).alloc (Nat.le_refl _) o2)).row.at (i:=Cp) (x:=.pointer A9) (by rw [<-hyl];simp)
   have hrf2:∀ o o2,((wr.alloc o).alloc o2).frozen? ⟨g,Cp,none⟩=false:=fun o o2=>((HR.out.step ((Below.refl _ _).alloc (Nat.le_refl _) o)).step ((Below.refl _ _).alloc (Nat.le_refl _) o2)).row.frozen Cp
   have HY:=zd (And.intro hyl hy2);clear hyl hy1 hy2;go_wp2;obtain⟨W3,hW3⟩:∃ W3,((wr.alloc (.cells (zC 0 (.pointer none) (.pointer none)) 81)).alloc (.cells (zC 4 (.pointer A9) (.pointer none)) 81)).setCell ⟨g,Cp,none⟩ (.pointer (some ⟨wr.heap.size+1,0,none⟩))=W3:=⟨_,rfl⟩;have hrew:=hW3;unfold zC at hrew;rw [hrew];have hal1:Below wr.heap.size wr (wr.alloc (.cells (zC 0 (.pointer none) (.pointer none)) 81)):=(Below.refl _ _).alloc (Nat.le_refl _) _;have hT0:=HR.out.step hal1;have hal2:=(Below.refl (wr.alloc (.cells (zC 0 (.pointer none) (.pointer none)) 81)).heap.size _).alloc (Nat.le_refl _) (.cells (zC 4 (.pointer A9) (.pointer none)) 81);have hT1:=hT0.step hal2;have hpx:=z_pls (BlkIs.new (wr.alloc (.cells (zC 0 (.pointer none) (.pointer none)) 81)) 81 (zC 4 (.pointer A9) (.pointer none))) ((HY.out.2.step hal1).step hal2);rw [World.size_alloc]at hpx;have hT2:=hT1.last HY.out.1 HGB.out.1 HGB.out.2.1 HGB.out.2.2 hpx;have hE0:=z_e (((BlkIs.new wr 81 (zC 0 (.pointer none) (.pointer none))).alloc (.cells (zC 4 (.pointer A9) (.pointer none)) 81)).far (p:=⟨g,Cp,none⟩) (by have:=(HR.out.row.step hal1);intro e;obtain⟨cur,h1,_⟩:=HR.out.row;have:=h1.lt;simp at e;omega) (.pointer (some ⟨wr.heap.size+1,0,none⟩)));rw [hW3]at hT2 hE0;rw [xzqa]at HPOST;obtain⟨L',hL'⟩:∃ L',L0++[.pls N]=L':=⟨_,rfl⟩;obtain⟨zs,hzs⟩:∃ zs,ys++[.pointer (some ⟨wr.heap.size+1,0,none⟩)]=zs:=⟨_,rfl⟩
   have hLl':L'.length=Cp+1:=by rw [<-hL'];simpa using hLl
   rw [hL']at HPOST hT2;rw [hzs]at hT2;have HT:=zd (And.intro hT2 (And.intro hE0 hLl'));clear hal1 hT0 hal2 hT1 hpx hT2 hE0 hL' hzs hLl' hW3 hrew hrc hrc2 hrf2 HY HR hLl hq1 hq2 hq3 hq1' hq2' hq3' hd6 hd7 hnd d0 d1 d2 d3 d4 d5 d6 d7
   rotate_left
   have hng: ¬ hi<0:=by omega
   have hnd:decide (hi<0)=false:=decide_eq_false hng;simp only [if_neg hng]at HPOST;go_wp2;obtain⟨W3,hW3⟩:∃ W3,wr.alloc (.cells (zC 0 (.pointer none) (.pointer none)) 81)=W3:=⟨_,rfl⟩;have hrew:=hW3;unfold zC at hrew;rw [hrew]
   have hal1:Below wr.heap.size wr W3:=by rw [<-hW3];exact(Below.refl _ _).alloc (Nat.le_refl _) _
   have hT2:=HR.out.step hal1;have hE0:=z_e (BlkIs.new wr 81 (zC 0 (.pointer none) (.pointer none)));rw [hW3]at hE0;obtain⟨L',hL'⟩:∃ L',L=L':=⟨_,rfl⟩;obtain⟨zs,hzs⟩:∃ zs,xs=zs:=⟨_,rfl⟩
   have hLl':L'.length=Cp+1:=by rw [<-hL'];exact hLl
   rw [hL']at HPOST hT2;rw [hzs]at hT2;have HT:=zd (And.intro hT2 (And.intro hE0 hLl'));clear hal1 hT2 hE0 hL' hzs hLl' hW3 hrew HR hLl hq1 hq2 hq3 hq1' hq2' hq3' hd6 hd7 hnd d0 d1 d2 d3 d4 d5 d6 d7
   rotate_left
   all_goals
    go_loopw [10,11] (fun r i wz=>∃ (q:Nat) (x:Int),i=.int .i64 x/\x+1=q/\lo<=(q:Int)/\q<=Cp+1/\Hid (RepS cb w.heap.size #[.int .i64 4,.int .u64 (wd m 0:Nat),.int .u64 (wd m 1:Nat),.int .u64 (wd m 2:Nat),.int .u64 (wd m 3:Nat),.slice (some ⟨b,o,none⟩) 1 c,.int .i64 lo,.int .i64 hi] #[.int .i64 ((n0+t.plN*(Cp+1):Nat):Int)] g L' zs w wz/\∃ AR,r=.pointer AR/\BudAt wz (restN (L'.drop q)) (.pointer AR))) (fun _ i _=>(intOf i+1).toNat)
    case atStart=>exact⟨Cp+1,Cp,rfl,rfl,by
     have h1:=HLH.out;unfold copiesI at h1
     split at h1<;>omega,Nat.le_refl _,zd ⟨HT.out.1,_,rfl,by rw [List.drop_of_length_le (by rw [HT.out.2.2];omega)];exact HT.out.2.1⟩⟩
    case round=>
     obtain⟨q,x,rfl,hxq,hlq,hqc,HH⟩:=hrel;obtain⟨e1,AR,rfl,e2⟩:=HH.out;clear HH;have HE:=zd (And.intro e1 e2);clear e1 e2;obtain⟨d0,d1,d2,d3,d4,d5,d6,d7⟩:=HE.out.1.box.eight
     by_cases hp:lo<=x
     ·obtain⟨q',rfl⟩:=Int.eq_ofNat_of_zero_le (show 0<=x by have:=HLH.out.1.1;omega)
      obtain rfl:q=q'+1:=by omega
      have hdl:decide (lo<=(q':Int))=true:=decide_eq_true hp
      have hkw:IntKind.i64.wrap ((q':Int) - 1)=(q':Int) - 1:=by rw [IntKind.wrap_i64];omega
      have hqi:(q':Int)<((Cp+1:Nat):Int):=by omega
      have hqi2:(q':Int)<(Cp:Int)+1:=by omega
      have hqL:q'<L'.length:=by rw [HT.out.2.2];omega
      obtain⟨AN,h1,h2⟩:=HE.out.1.nd.2 q' hqL;have hrc:=HE.out.1.row.at h1;have hdr:L'.drop q'=L'[q']::L'.drop (q'+1):=List.drop_eq_getElem_cons hqL;obtain⟨U1,hU1⟩:∃ U1,wr.alloc (.cells (zC 2 (.pointer AN) (.pointer AR)) 81)=U1:=⟨_,rfl⟩;obtain⟨U2,hU2⟩:∃ U2,U1.alloc (.cells (zC 0 (.pointer none) (.pointer none)) 81)=U2:=⟨_,rfl⟩;obtain⟨U3,hU3⟩:∃ U3,U2.alloc (.cells (zC 3 (.pointer (some ⟨wr.heap.size,0,none⟩)) (.pointer (some ⟨wr.heap.size+1,0,none⟩))) 81)=U3:=⟨_,rfl⟩
      have b1:Below wr.heap.size wr U1:=by rw [<-hU1];exact(Below.refl _ _).alloc (Nat.le_refl _) _
      have b2:Below U1.heap.size U1 U2:=by rw [<-hU2];exact(Below.refl _ _).alloc (Nat.le_refl _) _
      have b3:Below U2.heap.size U2 U3:=by rw [<-hU3];exact(Below.refl _ _).alloc (Nat.le_refl _) _
      have z1:U1.heap.size=wr.heap.size+1:=by rw [<-hU1,World.size_alloc]
      have z2:U2.heap.size=wr.heap.size+1+1:=by rw [<-hU2,World.size_alloc,z1]
      have n1:=z_cat (show BlkIs U1 wr.heap.size 81 (zC 2 (.pointer AN) (.pointer AR))by rw [<-hU1];exact BlkIs.new _ _ _) (h2.step b1) (HE.out.2.step b1);have n2:=z_e (show BlkIs U2 (wr.heap.size+1) 81 (zC 0 (.pointer none) (.pointer none))by rw [<-hU2,<-z1];exact BlkIs.new _ _ _);have n3:=z_alt (show BlkIs U3 (wr.heap.size+1+1) 81 (zC 3 (.pointer (some ⟨wr.heap.size,0,none⟩)) (.pointer (some ⟨wr.heap.size+1,0,none⟩)))by rw [<-hU3,<-z2];exact BlkIs.new _ _ _) ((n1.step b2).step b3) (n2.step b3)
      have HF:=zd (show RepS cb w.heap.size #[.int .i64 4,.int .u64 (wd m 0:Nat),.int .u64 (wd m 1:Nat),.int .u64 (wd m 2:Nat),.int .u64 (wd m 3:Nat),.slice (some ⟨b,o,none⟩) 1 c,.int .i64 lo,.int .i64 hi] #[.int .i64 ((n0+t.plN*(Cp+1):Nat):Int)] g L' zs w U3/\∃ AR,Value.pointer (some ⟨wr.heap.size+1+1,0,none⟩)=.pointer AR/\BudAt U3 (restN (L'.drop q')) (.pointer AR)from
       ⟨((HE.out.1.step b1).step b2).step b3,_,rfl,by rw [hdr];exact n3⟩)
      subst hU1 hU2 hU3;clear b1 b2 b3 z1 z2 n1 n2 n3 h1 h2 hdr HE;unfold zC at HF;go_wp2;exact⟨⟨q',(q':Int) - 1,rfl,by omega,by omega,by omega,HF⟩,by simp [intOf]⟩
     ·have hdl:decide (lo<=x)=false:=decide_eq_false hp
      obtain⟨ln,rfl⟩:=Int.eq_ofNat_of_zero_le (show 0<=lo from HLH.out.1.1)
      obtain rfl:q=ln:=by omega
      rw [Int.toNat_natCast]at HPOST
      have hd6:∀ u,(wr.alloc u).cell? ⟨w.heap.size,6,none⟩=some (.int .i64 (q:Int)):=fun u=>(HE.out.1.box.alloc u).cell 6
      obtain⟨U1,hU1⟩:∃ U1,wr.alloc (.cells (zC 0 (.pointer none) (.pointer none)) 81)=U1:=⟨_,rfl⟩
      have b1:Below wr.heap.size wr U1:=by rw [<-hU1];exact(Below.refl _ _).alloc (Nat.le_refl _) _
      have n1:=z_e (show BlkIs U1 wr.heap.size 81 (zC 0 (.pointer none) (.pointer none))by rw [<-hU1];exact BlkIs.new _ _ _);have HF:=zd (And.intro (HE.out.1.step b1) (And.intro (HE.out.2.step b1) n1));have hrew:=hU1;unfold zC at hrew;clear b1 n1 hU1;go_wp2;clear hrew hd6 HE d0 d1 d2 d3 d4 d5 d6 d7
      go_loopw [12,13] (fun r i wy=>∃ p:Nat,i=.int .i64 p/\p<=q/\Hid (RepS cb w.heap.size #[.int .i64 4,.int .u64 (wd m 0:Nat),.int .u64 (wd m 1:Nat),.int .u64 (wd m 2:Nat),.int .u64 (wd m 3:Nat),.slice (some ⟨b,o,none⟩) 1 c,.int .i64 (q:Int),.int .i64 hi] #[.int .i64 ((n0+t.plN*(Cp+1):Nat):Int)] g L' zs w wy/\BudAt wy (restN (L'.drop q)) (.pointer AR)/\∃ AX,r=.pointer AX/\BudAt wy ((L'.take p).foldl .cat .e) (.pointer AX))) (fun _ i _=>q - (intOf i).toNat)
      case atStart=>exact⟨0,rfl,Nat.zero_le _,zd ⟨HF.out.1,HF.out.2.1,_,rfl,HF.out.2.2⟩⟩
      case round=>
       obtain⟨p,rfl,hpq,HH⟩:=hrel;clear HF;obtain⟨e1,e2,AX,rfl,e3⟩:=HH.out;clear HH;have HE:=zd (And.intro e1 (And.intro e2 e3));clear e1 e2 e3;obtain⟨d0,d1,d2,d3,d4,d5,d6,d7⟩:=HE.out.1.box.eight
       by_cases hpl:p<q
       ·have hdl:decide ((p:Int)<(q:Int))=true:=by simp;omega
        have hkw:IntKind.i64.wrap ((p:Int)+1)=((p+1:Nat):Int):=by rw [IntKind.wrap_i64];omega
        have hqi:(p:Int)<((Cp+1:Nat):Int):=by omega
        have hqi2:(p:Int)<(Cp:Int)+1:=by omega
        have hqL:p<L'.length:=by rw [HT.out.2.2];omega
        obtain⟨AN,h1,h2⟩:=HE.out.1.nd.2 p hqL;have hrc:=HE.out.1.row.at h1
        have hfl:(L'.take (p+1)).foldl Bud.cat .e=.cat ((L'.take p).foldl .cat .e) L'[p]:=by rw [List.take_succ_eq_append_getElem hqL,List.foldl_append];rfl
        obtain⟨U2,hU2⟩:∃ U2,wr.alloc (.cells (zC 2 (.pointer AX) (.pointer AN)) 81)=U2:=⟨_,rfl⟩
        have b1:Below wr.heap.size wr U2:=by rw [<-hU2];exact(Below.refl _ _).alloc (Nat.le_refl _) _
        have n1:=z_cat (show BlkIs U2 wr.heap.size 81 (zC 2 (.pointer AX) (.pointer AN))by rw [<-hU2];exact BlkIs.new _ _ _) (HE.out.2.2.step b1) (h2.step b1);rw [<-hfl]at n1;have HF:=zd (And.intro (HE.out.1.step b1) (And.intro (HE.out.2.1.step b1) n1));have hrew:=hU2;unfold zC at hrew;clear b1 n1 hU2 h1 h2 hfl;go_wp2;exact⟨⟨p+1,rfl,hpl,zd ⟨HF.out.1,HF.out.2.1,_,rfl,HF.out.2.2⟩⟩,by simp [intOf];omega⟩
       ·have hdl:decide ((p:Int)<(q:Int))=false:=by simp;omega
        obtain rfl:q=p:=by omega
        obtain⟨U2,hU2⟩:∃ U2,wr.alloc (.cells (zC 2 (.pointer AX) (.pointer AR)) 81)=U2:=⟨_,rfl⟩
        have b1:Below wr.heap.size wr U2:=by rw [<-hU2];exact(Below.refl _ _).alloc (Nat.le_refl _) _
        have n1:=z_cat (show BlkIs U2 wr.heap.size 81 (zC 2 (.pointer AX) (.pointer AR))by rw [<-hU2];exact BlkIs.new _ _ _) (HE.out.2.2.step b1) (HE.out.2.1.step b1);have HF:=zd (And.intro (HE.out.1.step b1) n1);have hrew:=hU2;unfold zC at hrew;clear b1 n1 hU2;go_wp2;go_ret;exact HPOST.out _ _ HF.out.1.on HF.out.2 HF.out.1.cnt
end Go.Proofs.Ythoaaginadjaoaa
namespace Go.Proofs.Ythoaaginadjaoaa
open Go.RowKit
theorem xzvd (T:Tree):T.ok=true->T.nodes<=1048576->OutIs T:=by
 induction T using Tree.ind with
 |h k m l lo hi ih=>
  intro hok hn
  by_cases h0:(Tree.node k m l lo hi).plN=0
  ·exact xzsp _ hok hn h0
  ·have hop:=xzcb hok
   have hsub:∀ t∈l,OutIs t:=fun t ht=>ih t ht (hop.1 t ht) (by
    obtain⟨j,hj,rfl⟩:=List.getElem_of_mem ht;have h1:=xzck l j hj;unfold Tree.nodes at hn
    omega)
   rcases xzas hop.2 with⟨rfl,hl⟩|⟨rfl,hl⟩|⟨rfl,hl⟩|⟨rfl,hl⟩|⟨rfl,hl,_⟩
   ·exfalso
    apply h0
    have hl0:l=[]:=List.length_eq_zero_iff.1 (by simpa using hl);subst hl0;unfold Tree.plN
    simp [sumN]
   ·have hl0:l=[]:=List.length_eq_zero_iff.1 (by simpa using hl)
    subst hl0;exact xzsq m lo hi hok
   ·exact xzpz 2 (.inl rfl) m l lo hi hok hn h0 hsub
   ·exact xzpz 3 (.inr rfl) m l lo hi hok hn h0 hsub
   ·obtain⟨t,rfl⟩:∃ t,l=[t]:=List.length_eq_one_iff.1 hl
    exact xzvc m t lo hi hok hn h0 (hsub t (by simp))
namespace Bud
def rng (n n':Nat):Bud->Prop
 | .nil=>True
 | .e=>True
 | .pl p _=>n<=p/\p<n'
 | .cat a b=>a.rng n n'/\b.rng n n'
 | .alt a b=>a.rng n n'/\b.rng n n'
 | .pls a=>a.rng n n'
end Bud
theorem xzmz {n n':Nat}:∀ {N:Bud},N.rng n n'->N.inN n'
 | .nil,_=>trivial
 | .e,_=>trivial
 | .pl _ _,h=>h.2
 | .cat _ _,h=>⟨xzmz h.1,xzmz h.2⟩
 | .alt _ _,h=>⟨xzmz h.1,xzmz h.2⟩
 | .pls a,h=>xzmz (N:=a) h
theorem xzcu {n n' k k':Nat}(h1:k<=n)(h2:n'<=k'):∀ {N:Bud},N.rng n n'->N.rng k k'
 | .nil,_=>trivial
 | .e,_=>trivial
 | .pl _ _,h=>⟨Nat.le_trans h1 h.1,Nat.lt_of_lt_of_le h.2 h2⟩
 | .cat _ _,h=>⟨xzcu h1 h2 h.1,xzcu h1 h2 h.2⟩
 | .alt _ _,h=>⟨xzcu h1 h2 h.1,xzcu h1 h2 h.2⟩
 | .pls a,h=>xzcu (N:=a) h1 h2 h
end Go.Proofs.Ythoaaginadjaoaa
