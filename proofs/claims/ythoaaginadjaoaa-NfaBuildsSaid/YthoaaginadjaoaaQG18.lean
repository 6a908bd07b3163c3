/-
 A MAKER WHOSE SETS OR ROWS GROW by append. No condition.
-/
import Derived.Test.YthoaaginadjaoaaQG17
namespace Go.Proofs.Ythoaaginadjaoaa
section
open Go.RowKit
theorem xzky:(Try.prog.info? 37).map (fun i=>(i.zero,i.size,i.bytes))=some (some (.agg #[.int .u64 0,.int .u64 0,.int .u64 0,.int .u64 0]),4,32):=by kernel_rfl
theorem xzfk:(Try.prog.info? 26).map (fun i=>(i.zero,i.size,i.bytes))=some (some (.slice none 0 0),1,24):=by kernel_rfl
theorem xzby {P:Program}{w w':World}{base:Nat}{t ty e:TypeId}{i:TypeInfo}{z:Value}{size bytes:Nat}(ht:P.underlying t=some (.slice e))(hi:P.info? e=some i)(hz:i.zero=some z)
 (hsize:i.size=size)(hby:i.bytes=bytes){v v':Value}{n:Nat}{xs:List Value}(hown:w.ownsRow base e size v n xs)
 {a:Addr} {m c:Nat} {news:List Value} (hl:news.length=m*size) (hnews:∀ j u,news[j]? =some u->w.cell? (a.add j)=some u) (h1:∀ u∈news,u.oneCell'=true)
 (h63:n+m<=maxLen)(hbytes:(n+m)*bytes<=140737488355328)(hr:(Builtin.append_ #[t,t] ty #[v,.slice (some a) m c]).run P w=.ok v' w'):w'.ownsRow base e size v n xs:=by
 subst hsize
 subst hby
 rcases hown.2 with⟨rfl,rfl⟩|⟨g,cap,cur,rfl,hbg,hg,hnc,hcm,hcs,htake⟩
 ·have hx:xs=[]:=List.eq_nil_of_length_eq_zero (by simpa using hown.1)
  subst hx;exact World.ownsRow_nil _ _ _ _
 ·by_cases hroom:n+m<=cap
  ·have h2:=run_append_room (P:=P) w t ty e i ht hi g n cap cur hg a m c news hl hnews h1 hroom (by rw [hl,hcs,<-Nat.add_mul];exact Nat.mul_le_mul_right _ hroom)
   rw [h2]at hr
   injection hr with _ hr
   subst hr;have hx:xs.length=n*i.size:=hown.1
   have hcl:n*i.size<=cur.toList.length:=by rw [Array.length_toList,hcs];exact Nat.mul_le_mul_right _ hnc
   have hfit:n*i.size+news.length<=cur.toList.length:=by rw [hl,<-Nat.add_mul,Array.length_toList,hcs];exact Nat.mul_le_mul_right _ hroom
   refine⟨hown.1,.inr ⟨g,cap,_,rfl,hbg,setRow_heap w g cur _ e _ hg,hnc,hcm,?_,?_⟩⟩
   ·simp only [List.size_toArray,List.length_append,List.length_take,List.length_drop]
    rw [<-hcs,<-Array.length_toList];omega
   ·show(cur.toList.take (n*i.size)++news++_).take (n*i.size)=xs
    rw [htake,List.append_assoc,<-hx];exact List.take_left
  ·have holds:∀ j u,xs[j]? =some u->w.cell? ((⟨g,0,none⟩:Addr).add j)=some u:=hown.cells (g:=g) rfl
   have h2:=run_append_grow (P:=P) w t ty e i z ht hi hz ⟨g,0,none⟩ n cap xs hown.1 holds a m c news hl hnews (by omega) (by unfold maxLen at h63;omega) (growslice_fits (by omega) hbytes);rw [h2]at hr
   injection hr with _ hr
   subst hr
   exact xzac hown fun k hk=>Below.heap_alloc w.drew _ k (by have:=(World.ownsRow.lt hown k hk).2;exact this)
def Mv (M:Nat->Bool)(v:Value)(k:Nat):Bool:=M k||decide (v.ownBlock=some k)
theorem Mv_no {M:Nat->Bool}{v:Value}{k:Nat}:Mv M v k=false↔M k=false/\v.ownBlock≠some k:=by unfold Mv;simp
theorem xznf {M:Nat->Bool}{v:Value}{k:Nat}(h:M k=true):Mv M v k=true:=by unfold Mv;simp [h]
theorem Mv_me {M:Nat->Bool}{v:Value}{k:Nat}(h:v.ownBlock=some k):Mv M v k=true:=by unfold Mv;simp [h]
theorem xzul {M:Nat->Bool}{v v0:Value}{s:Nat}(h0:∀ k,v0.ownBlock=some k->M k=true)(hv:v.ownBlock=v0.ownBlock\/ ∃ g,v.ownBlock=some g/\s<=g):∀ k,k<s->Mv M v k=M k:=fun k hk=>by
 cases e:M k
 ·rw [Mv_no]
  refine⟨e,fun e2=>?_⟩
  rcases hv with h|⟨g,h1,h2⟩
  ·rw [h]at e2;rw [h0 k e2]at e;cases e
  ·rw [h1]at e2;injection e2 with e2;omega
 ·exact xznf e
section
variable {M K : Nat → Bool} {W U : World} {pb : Nat} {S : Mk} {r f e m vs vf v' : Value} {xs : List Value}
theorem MkI.newSets (h:MkI M K W pb S r f e m vs vf xs)(hn:Nx M M W U)(hb:BlkIs U pb 51 #[vs,r,f,vf,e,m])(h3:U.ownsRow 0 26 1 vf S.follow.length xs){T:List (Nat->Bool)}(h0:U.ownsRow 0 37 4 v' T.length (cellsS T))
 (hv:v'.ownBlock=vs.ownBlock\/ ∃ g,v'.ownBlock=some g/\W.heap.size<=g):
 Nx M (Mv M v') W (U.setCell ⟨pb,0,none⟩ v')/\MkI (Mv M v') K (U.setCell ⟨pb,0,none⟩ v') pb ⟨T,S.follow⟩ r f e m v' vf xs:=by
 have hold:=xzul (s:=W.heap.size) (fun k hk=>(h.far0 k hk).1) hv;have hx:Nx M (Mv M v') W (U.setCell ⟨pb,0,none⟩ v'):=(hn.trans (Nx.put (M:=M) (p:=⟨pb,0,none⟩) h.mine v')).more hold;have hpb:pb<W.heap.size:=h.blk.lt
 have hvpb:∀ k,v'.ownBlock=some k->k≠pb:=fun k hk e=>by
  rcases hv with h1|⟨g,h1,h2⟩
  ·rw [h1]at hk;exact(h.far0 k hk).2 e
  ·rw [h1]at hk;injection hk with hk;omega
 refine⟨hx,hb.put 0 v',xznf h.mine,xzac h0 fun k hk=>Below.heap_setCell _ _ _ _ (hvpb k hk),xzac h3 fun k hk=>Below.heap_setCell _ _ _ _ (h.far3 k hk).2.1,fun k hk=>⟨Mv_me hk,hvpb k hk⟩,fun k hk=>⟨xznf (h.far3 k hk).1,(h.far3 k hk).2.1,fun e=>?_⟩,fun i hi=>?_⟩
 ·rcases hv with h1|⟨g,h1,h2⟩
  ·rw [h1]at e;exact(h.far3 k hk).2.2 e
  ·rw [h1]at e;injection e with e
   have:=(World.ownsRow.lt h.own3 k hk).2;omega
 ·obtain⟨x,h1,h2⟩:=h.rows i hi
  exact⟨x,h1,h2.sub (hx.sub K)⟩
theorem MkI.newRow (h:MkI M K W pb S r f e m vs vf xs)(hn:Nx M M W U)(hb:BlkIs U pb 51 #[vs,r,f,vf,e,m])(h0:U.ownsRow 0 37 4 vs S.sets.length (cellsS S.sets)){l:List Int}{x:Value}(h3:U.ownsRow 0 26 1 v' (S.follow.length+1) (xs++[x]))
 (hxl:xs.length=S.follow.length)(hx0:IntsV (hide (U.setCell ⟨pb,3,none⟩ v') (MK (Mv M v') K)) l x)(hv:v'.ownBlock=vf.ownBlock\/ ∃ g,v'.ownBlock=some g/\W.heap.size<=g):
 Nx M (Mv M v') W (U.setCell ⟨pb,3,none⟩ v')/\MkI (Mv M v') K (U.setCell ⟨pb,3,none⟩ v') pb ⟨S.sets,S.follow++[l]⟩ r f e m vs v' (xs++[x]):=by
 have hold:=xzul (s:=W.heap.size) (fun k hk=>(h.far3 k hk).1) hv;have hx:Nx M (Mv M v') W (U.setCell ⟨pb,3,none⟩ v'):=(hn.trans (Nx.put (M:=M) (p:=⟨pb,3,none⟩) h.mine v')).more hold;have hpb:pb<W.heap.size:=h.blk.lt
 have hvpb:∀ k,v'.ownBlock=some k->k≠pb:=fun k hk e=>by
  rcases hv with h1|⟨g,h1,h2⟩
  ·rw [h1]at hk;exact(h.far3 k hk).2.1 e
  ·rw [h1]at hk;injection hk with hk;omega
 refine⟨hx,hb.put 3 v',xznf h.mine,xzac h0 fun k hk=>Below.heap_setCell _ _ _ _ (h.far0 k hk).2,?_,fun k hk=>⟨xznf (h.far0 k hk).1,(h.far0 k hk).2⟩,fun k hk=>⟨Mv_me hk,hvpb k hk,fun e=>?_⟩,fun i hi=>?_⟩
 ·rw [show(S.follow++[l]).length=S.follow.length+1 by simp]
  exact xzac h3 fun k hk=>Below.heap_setCell _ _ _ _ (hvpb k hk)
 ·rcases hv with h1|⟨g,h1,h2⟩
  ·rw [h1]at hk;exact(h.far3 k hk).2.2 e
  ·rw [h1]at hk;injection hk with hk
   have:=(World.ownsRow.lt h.own0 k e).2;omega
 ·by_cases hil:i<S.follow.length
  ·obtain⟨y,h1,h2⟩:=h.rows i hil
   refine⟨y,by rw [List.getElem?_append_left (by omega)];exact h1,?_⟩;simp only [List.getElem_append_left hil];exact h2.sub (hx.sub K)
  ·simp only [List.length_append,List.length_singleton]at hi
   obtain rfl:i=S.follow.length:=by omega
   exact⟨x,by rw [<-hxl];simp,by simpa using hx0⟩
theorem MkI.grown0 (h:MkI M K W pb S r f e m vs vf xs)(hg:W.grownBy U vs.ownBlock)(h0:U.ownsRow 0 37 4 vs S.sets.length (cellsS S.sets)):MkI M K U pb S r f e m vs vf xs:=
 ⟨(hg.block pb h.blk.lt (fun e=>(h.far0 pb e.symm).2 rfl)).trans h.blk,h.mine,h0,xzac h.own3 fun k hk=>hg.block k (World.ownsRow.lt h.own3 k hk).2 (fun e=>(h.far3 k hk).2.2 e.symm),h.far0,h.far3,
   fun i hi=>by obtain⟨x,h1,h2⟩:=h.rows i hi;exact⟨x,h1,h2.sub ((Nx.grown (M:=M) hg fun k hk=>(h.far0 k hk).1).sub K)⟩⟩
theorem MkI.grown3 (h:MkI M K W pb S r f e m vs vf xs)(hg:W.grownBy U vf.ownBlock)(h0:U.ownsRow 0 26 1 vf S.follow.length xs):MkI M K U pb S r f e m vs vf xs:=
 ⟨(hg.block pb h.blk.lt (fun e=>(h.far3 pb e.symm).2.1 rfl)).trans h.blk,h.mine,xzac h.own0 fun k hk=>hg.block k (World.ownsRow.lt h.own0 k hk).2 (fun e=>(h.far3 k e.symm).2.2 hk),h0,h.far0,h.far3,
   fun i hi=>by obtain⟨x,h1,h2⟩:=h.rows i hi;exact⟨x,h1,h2.sub ((Nx.grown (M:=M) hg fun k hk=>(h.far3 k hk).1).sub K)⟩⟩
theorem xzcl (T:List (Nat->Bool)):(cellsS T).length=T.length*4:=by
 induction T with
 |nil=>rfl
 |cons a r ih=>simp only [cellsS,List.flatMap_cons,List.length_append,List.length_cons,List.length_nil]at ih ⊢;omega
theorem xzin (A B:List (Nat->Bool)):cellsS (A++B)=cellsS A++cellsS B:=by simp [cellsS]
theorem xzio (T:List (Nat->Bool)):∀ u∈cellsS T,u.oneCell'=true:=by
 intro u hu;simp only [cellsS,List.mem_flatMap,List.mem_cons,List.not_mem_nil,or_false]at hu;obtain⟨m,_,h|h|h|h⟩:=hu<;>subst h<;>rfl
theorem xzhc (hown:W.ownsRow 0 37 4 vs S.sets.length (cellsS S.sets)){T:List (Nat->Bool)}{a:Addr}{c:Nat}(hnews:∀ j u,(cellsS T)[j]? =some u->W.cell? (a.add j)=some u)(hl:S.sets.length+T.length<=1099511627776):
 ∃ v' W',(Builtin.append_ #[25,25] 25 #[vs,.slice (some a) T.length c]).run Try.prog W=.ok v' W'/\W'.ownsRow 0 37 4 v' (S.sets++T).length (cellsS (S.sets++T))/\W.grownBy W' vs.ownBlock/\
  W'.ownsRow 0 37 4 vs S.sets.length (cellsS S.sets)/\(v'.ownBlock=vs.ownBlock\/v'.ownBlock=some W.heap.size):=by
 obtain⟨i0,hi0,hz0,hz1,hz2⟩:=info_parts xzky
 obtain⟨v',W',hr,h1,h2,_,h4⟩:=run_append_own_at (P:=Try.prog) (w:=W) 0 25 25 37 i0 _ 4 32 Try.underlying25 hi0 hz0 hz1 hz2 rfl (by decide) vs S.sets.length _ hown
  a T.length c (cellsS T) (xzcl T) hnews (xzio T) (by unfold maxLen;omega) (by omega) (Nat.zero_le _)
 exact⟨v',W',hr,by rw [List.length_append,xzin];exact h1,h2,xzby (P:=Try.prog) Try.underlying25 hi0 hz0 hz1 hz2 hown (xzcl T) hnews (xzio T) (by unfold maxLen;omega) (by omega) hr,h4⟩
theorem xzip {n:Nat}(hown:W.ownsRow 0 26 1 vf n xs){a:Addr}{c:Nat}{x:Value}(hnews:W.cell? a=some x)(h1:x.oneCell'=true)(hl:n+1<=1099511627776):
 ∃ v' W',(Builtin.append_ #[27,27] 27 #[vf,.slice (some a) 1 c]).run Try.prog W=.ok v' W'/\W'.ownsRow 0 26 1 v' (n+1) (xs++[x])/\W.grownBy W' vf.ownBlock/\
  W'.ownsRow 0 26 1 vf n xs/\(v'.ownBlock=vf.ownBlock\/v'.ownBlock=some W.heap.size):=by
 obtain⟨i0,hi0,hz0,hz1,hz2⟩:=info_parts xzfk
 have hnw:∀ j u,[x][j]? =some u->W.cell? (a.add j)=some u:=fun j u hu=>by
  cases j with
  |zero=>
   simp only [List.getElem?_cons_zero,zh]at hu;subst hu
   have e:a.add 0=a:=by unfold Addr.add;split<;>simp_all
   rw [e];exact hnews
  |succ j=>simp at hu
 have hone:∀ u∈[x],u.oneCell'=true:=fun u hu=>by rw [List.mem_singleton.1 hu];exact h1
 obtain⟨v',W',hr,h2,h3,_,h4⟩:=run_append_own_at (P:=Try.prog) (w:=W) 0 27 27 26 i0 _ 1 24 Try.underlying27 hi0 hz0 hz1 hz2 rfl (by decide) vf n xs hown
  a 1 c [x] rfl hnw hone (by unfold maxLen;omega) (by omega) (Nat.zero_le _)
 exact⟨v',W',hr,h2,h3,xzby (P:=Try.prog) Try.underlying27 hi0 hz0 hz1 hz2 hown (by rfl) hnw hone (by unfold maxLen;omega) (by omega) hr,h4⟩
end
end
section
open Go.RowKit
attribute [local irreducible] FreeW textFrame
theorem xzak {W:World}{B:Nat}{t:TypeId}{z n:Nat}{v:Value}{xs:List Value}(h:W.ownsRow B t z v n xs):∃ A c,v=.slice A n c/\(n<=c/\c<=9223372036854775807):=by
 rcases h.2 with⟨rfl,rfl⟩|⟨g,cap,cur,rfl,_,_,h1,h2,_⟩
 ·exact⟨none,0,rfl,by omega,by omega⟩
 ·exact⟨_,cap,rfl,h1,by unfold maxLen at h2;omega⟩
theorem IntsV.one {W:World}{K:Nat->Bool}{g:Nat}{x:Int}(h:BlkIs W g 3 #[.int .i64 x])(hK:K g=false):IntsV (hide W K) [x] (.slice (some ⟨g,0,none⟩) 1 1):=
 RunAt.ints (l:=[x]) ⟨by simp,fun i hi=>xzcs hK (by
  simp only [List.length_singleton]at hi
  obtain rfl:i=0:=by omega
  rw [Nat.add_zero,h.cell 0];rfl)⟩
set_option maxRecDepth 20000 in
set_option maxHeartbeats 16000000 in
theorem xzrx (M K:Nat->Bool)(S:Mk)(ms:Nat->Bool)(pb:Nat)(r f e m:Value)(w:World)(hm:MkAt M K w pb S r f e m)(hS:S.follow.length=S.sets.length)(hn:S.sets.length<=1048576)(hM:∀ k,M k=true->k<w.heap.size)(hK:∀ k,K k=true->k<w.heap.size):
 Calls Try.prog 47 #[.pointer (some ⟨pb,0,none⟩),.agg #[.int .u64 (wd ms 0:Nat),.int .u64 (wd ms 1:Nat),.int .u64 (wd ms 2:Nat),.int .u64 (wd ms 3:Nat)]] w fun x w'=>∃ M' v',x=.returned v'/\Nx M M' w w'/\(∀ k,M' k=true->k<w'.heap.size)/\MkAt M' K w' pb (placeS S ms) r f e m/\PrtV (hide w' (MK M' K)) ⟨[(S.sets.length:Int)],[(S.sets.length:Int)],false⟩ v':=by
 obtain⟨w2,hw2⟩:∃ w2,(w.alloc (.cells #[.int .u64 (wd ms 0:Nat),.int .u64 (wd ms 1:Nat),.int .u64 (wd ms 2:Nat),.int .u64 (wd ms 3:Nat)] 37)).alloc (.cells #[.slice none 0 0,.slice none 0 0,.bool false] 73)=w2:=⟨_,rfl⟩
 have hb2:Below w.heap.size w w2:=by rw [<-hw2];exact((Below.refl _ _).alloc (Nat.le_refl _) _).alloc (by simp) _
 have hs2:w2.heap.size=w.heap.size+2:=by rw [<-hw2];simp
 have hx0:BlkIs w2 w.heap.size 37 #[.int .u64 (wd ms 0:Nat),.int .u64 (wd ms 1:Nat),.int .u64 (wd ms 2:Nat),.int .u64 (wd ms 3:Nat)]:=by rw [<-hw2];exact(BlkIs.new w _ _).alloc _
 have hx1:BlkIs w2 (w.heap.size+1) 73 #[.slice none 0 0,.slice none 0 0,.bool false]:=by
  rw [<-hw2];have h:=BlkIs.new (w.alloc (.cells #[.int .u64 (wd ms 0:Nat),.int .u64 (wd ms 1:Nat),.int .u64 (wd ms 2:Nat),.int .u64 (wd ms 3:Nat)] 37)) 73 #[.slice none 0 0,.slice none 0 0,.bool false];rw [World.size_alloc]at h;exact h
 have hMf:∀ k,w.heap.size<=k->M k=false:=fun k hk=>by
  rw [Bool.eq_false_iff];intro e;have:=hM k e;omega
 obtain⟨vs,vf,xs,hmi⟩:=hm.new (b:=w.heap.size+1) hb2 (by omega);obtain⟨As,cs,rfl,hcs⟩:=xzak hmi.own0;obtain⟨Af,cf,rfl,hcf⟩:=xzak hmi.own3;obtain⟨vf,hvf⟩:∃ vf,Value.slice Af S.follow.length cf=vf:=⟨_,rfl⟩;rw [hvf]at hmi;have HMI:=zd hmi;have HBX:=zd (And.intro hx0 hx1);have HOW:=zd (show ∀ k,(Value.slice As S.sets.length cs).ownBlock=some k->k<w2.heap.size from fun k hk=>(World.ownsRow.lt hmi.own0 k hk).2);have HMK:=zd (And.intro hM (And.intro hK hMf));have HS:=zd (And.intro hb2 hs2);have HSL:=zd hS;obtain⟨k0,k1,k2,k3,k4,k5⟩:=six hmi.blk;obtain⟨y0,y1,y2,y3,_,_,_,_⟩:=hx0.four;clear hmi hx0 hx1 hb2 hs2 hMf hM hK hS hm
 go_enter Try.func47,Try.ntmps47
 go_wp2_with fail
 refine xzan 12 41 (fun u=>Hid (MkI M (Kor K (w.heap.size+1)) u pb S r f e m (.slice As S.sets.length cs) vf xs/\Nx M M w2 u/\BlkIs u w.heap.size 37 #[.int .u64 (wd ms 0:Nat),.int .u64 (wd ms 1:Nat),.int .u64 (wd ms 2:Nat),.int .u64 (wd ms 3:Nat)])) (fun i u u'=>(i=8->u.grownBy u' (Value.slice As S.sets.length cs).ownBlock/\u'.ownsRow 0 37 4 (.slice As S.sets.length cs) S.sets.length (cellsS S.sets))/\(i≠8->Below u.heap.size u u'))
  (fun i v u=>match i with
   |0=>v=.pointer (some ⟨pb,0,none⟩)
   |1=>v=.pointer (some ⟨pb,0,none⟩)
   |2=>v=.pointer (some ⟨pb,0,none⟩)
   |3=>v=.pointer (some ⟨pb,0,none⟩)
   |4=>v=.pointer (some ⟨pb,0,none⟩)
   |5=>v=.slice As S.sets.length cs
   |6=>v=.agg #[.int .u64 (wd ms 0:Nat),.int .u64 (wd ms 1:Nat),.int .u64 (wd ms 2:Nat),.int .u64 (wd ms 3:Nat)]
   |7=>∃ g,v=.slice (some ⟨g,0,none⟩) 1 1/\BlkIs u g 37 #[.int .u64 (wd ms 0:Nat),.int .u64 (wd ms 1:Nat),.int .u64 (wd ms 2:Nat),.int .u64 (wd ms 3:Nat)]/\w2.heap.size<=g
   |8=>u.ownsRow 0 37 4 v (S.sets++[ms]).length (cellsS (S.sets++[ms]))/\(v.ownBlock=(Value.slice As S.sets.length cs).ownBlock\/ ∃ g,v.ownBlock=some g/\w2.heap.size<=g)
   |9=>v=.pointer (some ⟨pb,0,none⟩)
   |10=>v=.pointer (some ⟨pb,0,none⟩)
   |11=>v=.pointer (some ⟨pb,0,none⟩)
   |_=>True) (by kernel_rfl) (by kernel_rfl) rfl (zd ⟨HMI.out.step (Below.refl _ _).drew,Nx.below (Below.refl _ _).drew,HBX.out.1.drew⟩) ?_ ?_ ?_ ?_
 ·intro i u u' hi hC hr
  by_cases hi8:i=8
  ·obtain⟨g1,g2⟩:=hr.1 hi8
   exact zd ⟨hC.out.1.grown0 g1 g2,hC.out.2.1.trans (Nx.grown g1 fun k hk=>(hC.out.1.far0 k hk).1),(g1.block _ hC.out.2.2.lt (fun e=>by have:=HOW.out w.heap.size e.symm;have:=(hC.out.1.far0 _ e.symm).1;exact absurd (HMK.out.1 _ this) (by omega))).trans hC.out.2.2⟩
  ·have hb:=hr.2 hi8
   exact zd ⟨hC.out.1.step hb,hC.out.2.1.trans (Nx.below hb),hC.out.2.2.step hb⟩
 ·intro i j v u u' hi hj hne hv hr
  match i,hi,hne,hv with
  |0,_,_,hv=>exact hv
  |1,_,_,hv=>exact hv
  |2,_,_,hv=>exact hv
  |3,_,_,hv=>exact hv
  |4,_,_,hv=>exact hv
  |5,_,_,hv=>exact hv
  |6,_,_,hv=>exact hv
  |7,_,hne,hv=>
   obtain⟨g,e1,e2,e3⟩:=hv;refine⟨g,e1,?_,e3⟩
   by_cases hj8:j=8
   ·exact((hr.1 hj8).1.block g e2.lt (fun e=>by have:=HOW.out g e.symm;omega)).trans e2
   ·exact e2.step (hr.2 hj8)
  |8,_,hne,hv=>
   exact⟨xzac hv.1 fun k hk=>(hr.2 (Ne.symm hne)).block k (World.ownsRow.lt hv.1 k hk).2,hv.2⟩
  |9,_,_,hv=>exact hv
  |10,_,_,hv=>exact hv
  |11,_,_,hv=>exact hv
  |i+12,hi,_,_=>omega
 ·intro i hi vs u hC hw oq ho
  match i,hi,hw,ho with
  |0,_,hw,ho=>
   simp only [zq,zh]at ho;subst ho;refine⟨rfl,?_⟩;obtain⟨k0,k1,k2,k3,k4,k5⟩:=six hC.out.1.blk;obtain⟨y0,y1,y2,y3,_,_,_,_⟩:=hC.out.2.2.four;clear hw;simp only [xzaa,tmpsTo];go_simp;exact xzab (Below.refl _ _) rfl
  |1,_,hw,ho=>
   simp only [zq,zh]at ho;subst ho;refine⟨rfl,?_⟩;obtain⟨k0,k1,k2,k3,k4,k5⟩:=six hC.out.1.blk;obtain⟨y0,y1,y2,y3,_,_,_,_⟩:=hC.out.2.2.four;clear hw;simp only [xzaa,tmpsTo,putT,zr];go_simp;exact xzab (Below.refl _ _) rfl
  |2,_,hw,ho=>
   have e1:vs 1=.pointer (some ⟨pb,0,none⟩):=hw 1 (by omega) (by kernel_rfl);simp only [zq,zh]at ho;subst ho;refine⟨rfl,?_⟩;obtain⟨k0,k1,k2,k3,k4,k5⟩:=six hC.out.1.blk;obtain⟨y0,y1,y2,y3,_,_,_,_⟩:=hC.out.2.2.four;clear hw;simp only [xzaa,tmpsTo,putT,zr];rw [e1];clear e1;go_simp;exact xzab (Below.refl _ _) rfl
  |3,_,hw,ho=>
   have e2:vs 2=.pointer (some ⟨pb,0,none⟩):=hw 2 (by omega) (by kernel_rfl);simp only [zq,zh]at ho;subst ho;refine⟨rfl,?_⟩;obtain⟨k0,k1,k2,k3,k4,k5⟩:=six hC.out.1.blk;obtain⟨y0,y1,y2,y3,_,_,_,_⟩:=hC.out.2.2.four;clear hw;simp only [xzaa,tmpsTo,putT,zr];rw [e2];clear e2;go_simp;exact xzab (Below.refl _ _) rfl
  |4,_,hw,ho=>
   have e3:vs 3=.pointer (some ⟨pb,0,none⟩):=hw 3 (by omega) (by kernel_rfl);simp only [zq,zh]at ho;subst ho;refine⟨rfl,?_⟩;obtain⟨k0,k1,k2,k3,k4,k5⟩:=six hC.out.1.blk;obtain⟨y0,y1,y2,y3,_,_,_,_⟩:=hC.out.2.2.four;clear hw;simp only [xzaa,tmpsTo,putT,zr];rw [e3];clear e3;go_simp;exact xzab (Below.refl _ _) rfl
  |5,_,hw,ho=>
   have e4:vs 4=.pointer (some ⟨pb,0,none⟩):=hw 4 (by omega) (by kernel_rfl);simp only [zq,zh]at ho;subst ho;refine⟨rfl,?_⟩;obtain⟨k0,k1,k2,k3,k4,k5⟩:=six hC.out.1.blk;obtain⟨y0,y1,y2,y3,_,_,_,_⟩:=hC.out.2.2.four;clear hw;simp only [xzaa,tmpsTo,putT,zr];rw [e4];clear e4;go_simp;exact xzab (Below.refl _ _) rfl
  |6,_,hw,ho=>
   simp only [zq,zh]at ho;subst ho;refine⟨rfl,?_⟩;obtain⟨k0,k1,k2,k3,k4,k5⟩:=six hC.out.1.blk;obtain⟨y0,y1,y2,y3,_,_,_,_⟩:=hC.out.2.2.four;clear hw;simp only [xzaa,tmpsTo,putT,zr];go_simp;exact xzab (Below.refl _ _) rfl
  |7,_,hw,ho=>
   have e6:vs 6=.agg #[.int .u64 (wd ms 0:Nat),.int .u64 (wd ms 1:Nat),.int .u64 (wd ms 2:Nat),.int .u64 (wd ms 3:Nat)]:=hw 6 (by omega) (by kernel_rfl);simp only [zq,zh]at ho;subst ho;refine⟨rfl,?_⟩;obtain⟨k0,k1,k2,k3,k4,k5⟩:=six hC.out.1.blk;obtain⟨y0,y1,y2,y3,_,_,_,_⟩:=hC.out.2.2.four;clear hw;simp only [xzaa,tmpsTo,putT,zr];rw [e6];clear e6;go_simp;exact xzab ((Below.refl _ _).alloc (Nat.le_refl _) _) ⟨_,rfl,BlkIs.new _ _ _,hC.out.2.1.size⟩
  |8,_,hw,ho=>
   have e5:vs 5=.slice As S.sets.length cs:=hw 5 (by omega) (by kernel_rfl);obtain⟨g,e7,hg1,hg2⟩:∃ g,vs 7=.slice (some ⟨g,0,none⟩) 1 1/\BlkIs u g 37 #[.int .u64 (wd ms 0:Nat),.int .u64 (wd ms 1:Nat),.int .u64 (wd ms 2:Nat),.int .u64 (wd ms 3:Nat)]/\w2.heap.size<=g:=hw 7 (by omega) (by kernel_rfl);simp only [zq,zh]at ho;subst ho;refine⟨rfl,?_⟩;obtain⟨k0,k1,k2,k3,k4,k5⟩:=six hC.out.1.blk;obtain⟨y0,y1,y2,y3,_,_,_,_⟩:=hC.out.2.2.four;clear hw;simp only [xzaa,tmpsTo,putT,zr];rw [e5];clear e5;rw [e7]
   obtain⟨v',W',hrun,k1,k2,k3,k4⟩:=xzhc (S:=S) hC.out.1.own0 (T:=[ms]) (a:=⟨g,0,none⟩) (c:=1) (fun j x hx=>by
    rw [Addr.add_lit,Nat.zero_add,hg1.cell j]
    simpa [cellsS]using hx) (by simp;omega)
   simp only [List.length_singleton]at hrun;rw [xzdx (.tmp 17) (.tmp 19) 25 25 rfl rfl rfl hrun];refine xzab ?_ ?_
   ·exact⟨fun _=>⟨k2,k3⟩,fun h=>absurd rfl h⟩
   ·refine⟨k1,?_⟩
    rcases k4 with k4|k4
    ·exact .inl k4
    ·exact .inr ⟨_,k4,hC.out.2.1.size⟩
  |9,_,hw,ho=>
   have e0:vs 0=.pointer (some ⟨pb,0,none⟩):=hw 0 (by omega) (by kernel_rfl);simp only [zq,zh]at ho;subst ho;refine⟨rfl,?_⟩;obtain⟨k0,k1,k2,k3,k4,k5⟩:=six hC.out.1.blk;obtain⟨y0,y1,y2,y3,_,_,_,_⟩:=hC.out.2.2.four;clear hw;simp only [xzaa,tmpsTo,putT,zr];rw [e0];clear e0;go_simp;exact xzab (Below.refl _ _) rfl
  |10,_,hw,ho=>
   have e9:vs 9=.pointer (some ⟨pb,0,none⟩):=hw 9 (by omega) (by kernel_rfl);simp only [zq,zh]at ho;subst ho;refine⟨rfl,?_⟩;obtain⟨k0,k1,k2,k3,k4,k5⟩:=six hC.out.1.blk;obtain⟨y0,y1,y2,y3,_,_,_,_⟩:=hC.out.2.2.four;clear hw;simp only [xzaa,tmpsTo,putT,zr];rw [e9];clear e9;go_simp;exact xzab (Below.refl _ _) rfl
  |11,_,hw,ho=>
   have e10:vs 10=.pointer (some ⟨pb,0,none⟩):=hw 10 (by omega) (by kernel_rfl);simp only [zq,zh]at ho;subst ho;refine⟨rfl,?_⟩;obtain⟨k0,k1,k2,k3,k4,k5⟩:=six hC.out.1.blk;obtain⟨y0,y1,y2,y3,_,_,_,_⟩:=hC.out.2.2.four;clear hw;simp only [xzaa,tmpsTo,putT,zr];rw [e10];clear e10;go_simp;exact xzab (Below.refl _ _) rfl
  |i+12,hi,_,_=>omega
 intro vs1 u hC hV;have h8:u.ownsRow 0 37 4 (vs1 8) (S.sets++[ms]).length (cellsS (S.sets++[ms]))/\((vs1 8).ownBlock=(Value.slice As S.sets.length cs).ownBlock\/ ∃ g,(vs1 8).ownBlock=some g/\w2.heap.size<=g):=hV 8 (by omega);have h11:vs1 11=.pointer (some ⟨pb,0,none⟩):=hV 11 (by omega);clear hV;simp only [xzaa,tmpsTo,putT,zr,List.drop_succ_cons,List.drop_zero];rw [h11];clear h11;generalize vs1 8=v8 at*;generalize vs1 0=q0;generalize vs1 1=q1;generalize vs1 2=q2;generalize vs1 3=q3;generalize vs1 4=q4;generalize vs1 5=q5;generalize vs1 6=q6;generalize vs1 7=q7;generalize vs1 9=q9;generalize vs1 10=q10;obtain⟨n1,m1⟩:=HMI.out.newSets hC.out.2.1 hC.out.1.blk hC.out.1.own3 h8.1 h8.2
 have hl8:(S.sets++[ms]).length=S.sets.length+1:=by simp
 obtain⟨A8,c8,rfl,hc8⟩:=xzak (hl8▸h8.1);clear hl8;obtain⟨U1,hU1⟩:∃ U1,u.setCell ⟨pb,0,none⟩ (.slice A8 (S.sets.length+1) c8)=U1:=⟨_,rfl⟩;rw [hU1]at n1 m1;obtain⟨i0,i1,i2,i3,i4,i5⟩:=six hC.out.1.blk;have fz:=hC.out.1.blk.frozen 0;clear k0 k1 k2 k3 k4 k5 y0 y1 y2 y3;obtain⟨k0,k1,k2,k3,k4,k5⟩:=six m1.blk
 have hbA:Below U1.heap.size U1 (U1.alloc (.cells #[.slice none 0 0] 26)):=(Below.refl _ _).alloc (Nat.le_refl _) _;have hnewA:=BlkIs.new U1 26 #[.slice none 0 0];obtain⟨v9,W9,hrun9,r1,r2,r3,r4⟩:=xzip (m1.step hbA).own3 (a:=⟨U1.heap.size,0,none⟩) (c:=1) (x:=.slice none 0 0) ((hnewA.cell 0).trans rfl) rfl (by show S.follow.length+1<=_;have:=HSL.out;omega);have hnxA:Nx (Mv M (.slice A8 (S.sets.length+1) c8)) (Mv M (.slice A8 (S.sets.length+1) c8)) U1 W9:=(Nx.below hbA).trans (Nx.grown r2 fun k hk=>(m1.far3 k hk).1);have hm9:=(m1.step hbA).grown3 r2 r3
 have hv9:v9.ownBlock=vf.ownBlock\/ ∃ g,v9.ownBlock=some g/\U1.heap.size<=g:=by
  rcases r4 with h|h
  ·exact .inl h
  ·exact .inr ⟨_,h,by simp⟩
 have hxl:xs.length=S.follow.length:=by have:=HMI.out.own3.1;omega
 obtain⟨n2,m2⟩:=m1.newRow hnxA hm9.blk hm9.own0 (l:=[]) (x:=.slice none 0 0) r1 hxl (IntsV.nil _) hv9;obtain⟨A9,c9,rfl,hc9⟩:=xzak r1;obtain⟨U2,hU2⟩:∃ U2,W9.setCell ⟨pb,3,none⟩ (.slice A9 (S.follow.length+1) c9)=U2:=⟨_,rfl⟩;rw [hU2]at n2 m2;obtain⟨j0,j1,j2,j3,j4,j5⟩:=six hm9.blk;have fz3:=hm9.blk.frozen 3
 have hM2:∀ k,w.heap.size+2<=k\/k=w.heap.size+1->U2.heap.size<=k\/k=w.heap.size+1->Mv (Mv M (.slice A8 (S.sets.length+1) c8)) (.slice A9 (S.follow.length+1) c9) k=false:=fun k hk1 hk2=>by
  rw [Mv_no,Mv_no];refine⟨⟨HMK.out.2.2 k (by omega),fun e8=>?_⟩,fun e9=>?_⟩
  ·have hl:=(m2.own0)
   have hlt:=(World.ownsRow.lt m2.own0 k e8).2
   rcases h8.2 with h|⟨g,h1,h2⟩
   ·have hh:=HMI.out.far0 k (h▸e8)
    have:=HMK.out.1 k hh.1;omega
   ·rw [e8]at h1;injection h1 with h1;have:=HS.out.2;omega
  ·have hlt:=(World.ownsRow.lt m2.own3 k e9).2
   rcases hv9 with h|⟨g,h1,h2⟩
   ·have hh:=(HMI.out.far3 k (h▸e9)).1
    have:=HMK.out.1 k hh;omega
   ·rw [e9]at h1;injection h1 with h1;have:=n1.size;have:=HS.out.2;omega
 have hMlt:∀ k,Mv (Mv M (.slice A8 (S.sets.length+1) c8)) (.slice A9 (S.follow.length+1) c9) k=true->k<U2.heap.size:=fun k hk=>by
  rcases Nat.lt_or_ge k U2.heap.size with h|h
  ·exact h
  ·have hz:w.heap.size+2<=U2.heap.size:=by have:=n1.size;have:=n2.size;have:=HS.out.2;omega
   rw [hM2 k (by omega) (by omega)]at hk;cases hk
 have n12:Nx M _ w U2:=(Nx.below HS.out.1).trans (n1.trans n2)
 have hbr:BlkIs U2 (w.heap.size+1) 73 #[.slice none 0 0,.slice none 0 0,.bool false]:=by
  have h:=n1.trans n2;exact HBX.out.2.nx h (HMK.out.2.2 _ (by omega))
 have HM2:=zd m2;have HN:=zd n12;have HMF:=zd hM2;have HML:=zd hMlt;have HBR:=zd hbr;have hsz:=hbr.lt;obtain⟨b0,b1,b2,_,_,_⟩:=three hbr;clear m1 n1 m2 n2 hbA hnewA r1 r2 r3 r4 hnxA hm9 hv9 hM2 hMlt n12 hC h8 hbr;generalize Mv (Mv M (.slice A8 (S.sets.length+1) c8)) (.slice A9 (S.follow.length+1) c9)=M2 at*;have HLT:=zd hsz;obtain⟨U3,hU3⟩:∃ U3,(U2.alloc (.cells #[.int .i64 (S.sets.length:Int)] 3)).alloc (.cells #[.int .i64 (S.sets.length:Int)] 3)=U3:=⟨_,rfl⟩
 have hb3:Below U2.heap.size U2 U3:=by rw [<-hU3];exact((Below.refl _ _).alloc (Nat.le_refl _) _).alloc (by simp) _
 have hg3:BlkIs U3 U2.heap.size 3 #[.int .i64 (S.sets.length:Int)]:=by rw [<-hU3];exact(BlkIs.new U2 _ _).alloc _
 have hg4:BlkIs U3 (U2.heap.size+1) 3 #[.int .i64 (S.sets.length:Int)]:=by
  rw [<-hU3];have h:=BlkIs.new (U2.alloc (.cells #[.int .i64 (S.sets.length:Int)] 3)) 3 #[.int .i64 (S.sets.length:Int)];rw [World.size_alloc]at h;exact h
 clear b0 b1 b2;obtain⟨b0,b1,b2,fb0,fb1,fb2⟩:=three (HBR.out.step hb3);have H3:=zd (And.intro hb3 (And.intro hg3 hg4));have hlt3:w.heap.size+1<U3.heap.size:=(HBR.out.step hb3).lt;clear hb3 hg3 hg4
 go_wp2_with(refine xzal rfl _ _ 27 27 rfl rfl rfl hrun9 ?_)
 have hl:=xzcd (xzbs (x:=.slice (some ⟨U2.heap.size,0,none⟩) 1 1) (y:=.slice (some ⟨U2.heap.size+1,0,none⟩) 1 1) (z:=.bool false) (HBR.out.step H3.out.1));have hkb:Kor K (w.heap.size+1) (w.heap.size+1)=true:=xzff _ _;have hmb:M2 (w.heap.size+1)=false:=HMF.out _ (.inr rfl) (.inr rfl)
 have hfar:∀ U:World,Sub (hide U (MK M2 (Kor K (w.heap.size+1)))) (hide (((U.setCell ⟨w.heap.size+1,0,none⟩ (.slice (some ⟨U2.heap.size,0,none⟩) 1 1)).setCell ⟨w.heap.size+1,1,none⟩ (.slice (some ⟨U2.heap.size+1,0,none⟩) 1 1)).setCell ⟨w.heap.size+1,2,none⟩ (.bool false)) (MK M2 K)):=fun U=>
  (((xzap (M:=M2) (i:=0) hkb _).trans (xzap (M:=M2) (i:=1) hkb _)).trans (xzap (M:=M2) (i:=2) hkb _)).trans xzdg
 have hfree:∀ g,U2.heap.size<=g->MK M2 (Kor K (w.heap.size+1)) g=false:=fun g hg=>by
  rw [MK_no,Kor_no];refine⟨HMF.out g (by have:=HLT.out;omega) (.inl hg),?_,by have:=HLT.out;omega⟩;rw [Bool.eq_false_iff];intro e;have:=HMK.out.2.1 g e;have:=HLT.out;omega
 refine⟨rfl,_,xzaf rfl rfl hl,M2,_,rfl,(((HN.out.trans (Nx.below H3.out.1)).far (by omega)).far (by omega)).far (by omega),fun k hk=>?_,?_,_,_,rfl,(IntsV.one H3.out.2.1 (hfree _ (Nat.le_refl _))).sub (hfar U3),(IntsV.one H3.out.2.2 (hfree _ (by omega))).sub (hfar U3)⟩
 ·have:=HML.out k hk
  have:=H3.out.1.size
  simp [World.setCell];omega
 ·have hmm:MkAt M2 (Kor K (w.heap.size+1)) U3 pb (placeS S ms) r f e m:=MkAt.step ⟨_,_,_,HM2.out⟩ H3.out.1
  exact(((hmm.far hkb hmb).far hkb hmb).far hkb hmb).less
end
end Go.Proofs.Ythoaaginadjaoaa
