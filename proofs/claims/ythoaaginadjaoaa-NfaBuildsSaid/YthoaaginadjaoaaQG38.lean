/-
 THE SETS OF NODES' PLACES: a contract. Condition: the nodes' places lie in the row.
-/
import Derived.Deep.RegionHeld
import Derived.RegionTactic
import Derived.Test.YthoaaginadjaoaaQG37
namespace Go.Proofs.Ythoaaginadjaoaa
section
open Go.RowKit
attribute [local irreducible] FreeW
theorem xzew (L:List (Nat->Bool)):(cellsS L).toArray.size=L.length*4:=by rw [List.size_toArray,xzcl]
theorem xzjc:∀ (L:List (Nat->Bool)) (p:Nat) (m:Nat->Bool),p<L.length->
 (((((cellsS L).set (p*4) (.int .u64 (wd m 0:Nat))).set (p*4+1) (.int .u64 (wd m 1:Nat))).set (p*4+2) (.int .u64 (wd m 2:Nat))).set (p*4+3) (.int .u64 (wd m 3:Nat)))=cellsS (L.set p m)
 |[],p,m,h=>by simp at h
 |a::r,0,m,_=>by simp [cellsS]
 |a::r,p+1,m,h=>by
  have ih:=xzjc r p m (by simpa using h)
  have e1:(p+1)*4=p*4+4:=by omega
  have e2:(p+1)*4+1=(p*4+1)+4:=by omega
  have e3:(p+1)*4+2=(p*4+2)+4:=by omega
  have e4:(p+1)*4+3=(p*4+3)+4:=by omega
  rw [e4,e3,e2,e1,List.set_cons_succ];simp only [cellsS,List.flatMap_cons]at ih ⊢;rw [<-ih]
  simp
theorem put_set {u:World}{g:Nat}{L:List (Nat->Bool)}(h:BlkIs u g 37 (cellsS L).toArray)(p:Nat)(m:Nat->Bool)(hp:p<L.length):
 BlkIs ((((u.setCell ⟨g,p*4,none⟩ (.int .u64 (wd m 0:Nat))).setCell ⟨g,p*4+1,none⟩ (.int .u64 (wd m 1:Nat))).setCell ⟨g,p*4+2,none⟩ (.int .u64 (wd m 2:Nat))).setCell ⟨g,p*4+3,none⟩ (.int .u64 (wd m 3:Nat))) g 37 (cellsS (L.set p m)).toArray:=by
 have:=(((h.put (p*4) (.int .u64 (wd m 0:Nat))).put (p*4+1) (.int .u64 (wd m 1:Nat))).put (p*4+2) (.int .u64 (wd m 2:Nat))).put (p*4+3) (.int .u64 (wd m 3:Nat));rw [<-xzjc L p m hp]
 simpa using this
theorem xzgm:∀ N:Bud,∀ L:List (Nat->Bool),(N.put L).length=L.length
 | .nil,_=>rfl
 | .e,_=>rfl
 | .pl _ _,L=>by simp [Bud.put]
 | .cat a b,M=>by simp only [Bud.put];rw [xzgm b,xzgm a]
 | .alt a b,M=>by simp only [Bud.put];rw [xzgm b,xzgm a]
 | .pls a,M=>by simp only [Bud.put];rw [xzgm a]
theorem one4 (m:Nat->Bool):(#[Value.int .u64 (wd m 0:Nat),.int .u64 (wd m 1:Nat),.int .u64 (wd m 2:Nat),.int .u64 (wd m 3:Nat)]:Array Value).all (·.oneCell')=true:=by
 simp [Value.oneCell']
theorem On.cells {g:Nat}:∀ (vs:List Value) (o:Nat) (u:World),On g u (u.setCells g o vs)
 |[],_,_=>On.refl _ _
 |v::vs,o,_=>(On.put (o:=o) v).trans (On.cells vs (o+1) _)
def SetsIs (g:Nat)(L:List (Nat->Bool))(w:World):Ending->World->Prop:=fun e w'=>(∃ x,e=.returned x)/\On g w w'/\BlkIs w' g 37 (cellsS L).toArray
def SameIs (w:World):Ending->World->Prop:=fun e w'=>(∃ x,e=.returned x)/\w'=w
set_option maxRecDepth 20000 in
theorem xzfp (n:Nat)(w:World)(g:Nat):Calls Try.prog 29 #[.pointer none,.slice (some ⟨g,0,none⟩) n n] w (SameIs w):=by
 go_enter Try.func29,Try.ntmps29
 go_wp2
 go_end0
 exact⟨⟨_,rfl⟩,rfl⟩
set_option maxRecDepth 20000 in
set_option maxHeartbeats 16000000 in
theorem xzva (n p:Nat)(m:Nat->Bool)(v:Value)(w:World)(g:Nat)(L:List (Nat->Bool))(hL:L.length=n)(hv:BudAt w (.pl p m) v)(hi:p<n)(hg:BlkIs w g 37 (cellsS L).toArray):
 Calls Try.prog 29 #[v,.slice (some ⟨g,0,none⟩) n n] w (SetsIs g ((Bud.pl p m).put L) w):=by
 obtain⟨k,rfl,hb⟩:=hv
 have hii:((p:Nat):Int)<(n:Nat):=by omega
 have HB:=zd hb;have HN:=zd hg;clear hg;unfold ndC at hb;obtain⟨c0,c1,c2,c3,c4,c5,c6,c7⟩:=hb.eight;clear hb
 go_enter Try.func29,Try.ntmps29
 go_wp2_with fail
 clear c0 c1 c2 c3 c4 c5 c6 c7;refine xzat 10 10 33 (fun u=>Hid (Below w.heap.size w u/\BlkIs u k 81 (ndC 1 p m (.pointer none) (.pointer none))/\BlkIs u g 37 (cellsS L).toArray)) (fun _=>#[]) (fun _=>0) (by kernel_rfl) (by kernel_rfl) rfl (zd ⟨(Below.refl _ _).drew,HB.out.drew,HN.out.drew⟩) (fun u u' h hb=>zd ⟨h.out.1.trans (hb.mono h.out.1.size),h.out.2.1.step hb,h.out.2.2.step hb⟩) (fun i o h1 h2=>absurd h1 (by omega)) ?_;simp only [List.take_succ_cons,List.take_zero,List.drop_succ_cons,List.drop_zero]
 repeat
  refine xzae fun K hK=>?_
  go_simp
  apply Exists.intro
  refine⟨fun u h1=>?_,hK _ ?_⟩
  ·have hb:=h1.out.2.1
   unfold ndC at hb;obtain⟨c0,c1,c2,c3,c4,c5,c6,c7⟩:=hb.eight;clear hb;unfold freeAt;go_simp;exact xzah
  clear hK K
 refine xzay ?_;intro gg u2 hC hb2 _ _;have HD:=zd hC.out;clear hC hb2;rw [Nat.sub_self,List.take_zero];unfold putNews
 have ht:u2.there g (p*4) 4:=fun j hj=>by
  have:=HD.out.2.2.there (p*4+j) (by rw [xzew];omega)
  simpa using this
 refine wpList_store_mid ?_ 37 (.tmp 20) (.tmp 19) ?_ g (p*4) #[.int .u64 (wd m 0:Nat),.int .u64 (wd m 1:Nat),.int .u64 (wd m 2:Nat),.int .u64 (wd m 3:Nat)] ?_ ?_ ht ?_ ?_ ?_
 all_goals first|(exact rfl)|(exact one4 m)|skip
 obtain⟨wz,hwz⟩:∃ wz,u2.setCells g (p*4) [.int .u64 (wd m 0:Nat),.int .u64 (wd m 1:Nat),.int .u64 (wd m 2:Nat),.int .u64 (wd m 3:Nat)]=wz:=⟨_,rfl⟩
 have hbz:BlkIs wz g 37 (cellsS (L.set p m)).toArray:=by rw [<-hwz];exact put_set HD.out.2.2 p m (by omega)
 have hoz:On g w wz:=by rw [<-hwz];exact(On.of HD.out.1).trans (On.cells _ _ _)
 have hkz:BlkIs wz k 81 (ndC 1 p m (.pointer none) (.pointer none)):=hoz.blk (xzdj HB.out HN.out (by decide)) HB.out;have HZ:=zd (And.intro hoz hbz);unfold ndC at hkz;obtain⟨c0,c1,c2,c3,c4,c5,c6,c7⟩:=hkz.eight
 show wpList _ _ _ _ _ (u2.setCells g (p*4) [.int .u64 (wd m 0:Nat),.int .u64 (wd m 1:Nat),.int .u64 (wd m 2:Nat),.int .u64 (wd m 3:Nat)])
 rw [hwz];clear hbz hoz hkz hwz HD ht
 go_wp2_with(go_at_call 29;refine(xzfp _ _ _).mono ?_;rintro e u3 ⟨⟨x3,rfl⟩,rfl⟩)
 go_end0
 exact⟨⟨_,rfl⟩,HZ.out.1,HZ.out.2⟩
set_option maxRecDepth 20000 in
set_option maxHeartbeats 16000000 in
theorem xzlo (n:Nat)(a b:Bud)(iha:∀ (v:Value) (w:World) (g:Nat) (L:List (Nat->Bool)),L.length=n->BudAt w a v->a.inN n->BlkIs w g 37 (cellsS L).toArray->Calls Try.prog 29 #[v,.slice (some ⟨g,0,none⟩) n n] w (SetsIs g (a.put L) w))
 (ihb:∀ (v:Value) (w:World) (g:Nat) (L:List (Nat->Bool)),L.length=n->BudAt w b v->b.inN n->BlkIs w g 37 (cellsS L).toArray->Calls Try.prog 29 #[v,.slice (some ⟨g,0,none⟩) n n] w (SetsIs g (b.put L) w))
 (what k:Nat)(x y:Value)(w:World)(g:Nat)(L:List (Nat->Bool))(hL:L.length=n)(hb:BlkIs w k 81 (ndC what 0 no8 x y))(hwh:what=2\/what=3)(h1:BudAt w a x)(h2:BudAt w b y)(hi:a.inN n/\b.inN n)(hg:BlkIs w g 37 (cellsS L).toArray):
 Calls Try.prog 29 #[.pointer (some ⟨k,0,none⟩),.slice (some ⟨g,0,none⟩) n n] w (SetsIs g (b.put (a.put L)) w):=by
 have hne:81≠37:=by decide
 obtain⟨A,hA⟩:=h1.form;obtain⟨B,hB⟩:=h2.form;subst hA;subst hB
 have hwd:decide ((what:Int)=1)=false:=by rcases hwh with rfl|rfl<;>rfl
 have hwd2:((what:Int)==1)=false:=by rcases hwh with rfl|rfl<;>rfl
 have HA:=zd (fun(u:World) (hu:On g w u) (hg':BlkIs u g 37 (cellsS L).toArray)=>iha _ u g L hL (BudAt.on hu hg hne h1) hi.1 hg');have HB:=zd (fun(u:World) (hu:On g w u) (hg':BlkIs u g 37 (cellsS (a.put L)).toArray)=>ihb _ u g (a.put L) (by rw [xzgm];exact hL) (BudAt.on hu hg hne h2) hi.2 hg');unfold SetsIs at HA HB;have HG:=zd hg;have HK:=zd (fun(u:World) (hu:On g w u)=>hu.blk (xzdj hb hg hne) hb);clear iha ihb h1 h2 hg hwh;unfold ndC at hb HK;obtain⟨c0,c1,c2,c3,c4,c5,c6,c7⟩:=hb.eight;clear hb
 go_enter Try.func29,Try.ntmps29
 go_wp2_with fail
 go_at_call 29
 refine(HA.out w (On.refl _ _) HG.out).mono ?_;rintro e u1 ⟨⟨x1,rfl⟩,ho1,hb1⟩;have HU:=zd (And.intro ho1 hb1);clear ho1 hb1 c0 c1 c2 c3 c4 c5 c6 c7;obtain⟨c0,c1,c2,c3,c4,c5,c6,c7⟩:=(HK.out u1 HU.out.1).eight
 go_wp2_with fail
 go_at_call 29
 refine(HB.out u1 HU.out.1 HU.out.2).mono ?_;rintro e u2 ⟨⟨x2,rfl⟩,ho2,hb2⟩;have HV:=zd (And.intro (HU.out.1.trans ho2) hb2);clear ho2 hb2;go_wp2
 go_end0
 exact⟨⟨_,rfl⟩,HV.out.1,HV.out.2⟩
set_option maxRecDepth 20000 in
set_option maxHeartbeats 16000000 in
theorem xzsl (n:Nat):∀ (N:Bud) (v:Value) (w:World) (g:Nat) (L:List (Nat->Bool)),L.length=n->BudAt w N v->N.inN n->BlkIs w g 37 (cellsS L).toArray->
 Calls Try.prog 29 #[v,.slice (some ⟨g,0,none⟩) n n] w (SetsIs g (N.put L) w):=by
 have hne:81≠37:=by decide
 intro N
 induction N with
 |nil=>
  intro v w g L hL hv hi hg;obtain rfl:=hv;refine(xzfp n w g).mono ?_;rintro e u ⟨h1,rfl⟩;exact⟨h1,On.refl _ _,hg⟩
 |e=>
  intro v w g L hL hv hi hg;obtain⟨k,rfl,hb⟩:=hv;have HG:=zd hg;clear hg;unfold ndC at hb;obtain⟨c0,c1,c2,c3,c4,c5,c6,c7⟩:=hb.eight;clear hb
  go_enter Try.func29,Try.ntmps29
  go_wp2_with(go_at_call 29;refine(xzfp _ _ _).mono ?_;rintro e u3 ⟨⟨x3,rfl⟩,rfl⟩)
  go_end0
  exact⟨⟨_,rfl⟩,On.refl _ _,HG.out⟩
 |pl p m=>
  intro v w g L hL hv hi hg;exact xzva n p m v w g L hL hv hi hg
 |cat a b iha ihb=>
  intro v w g L hL hv hi hg;obtain⟨k,x,y,rfl,hb,h1,h2⟩:=hv;exact xzlo n a b iha ihb 2 k x y w g L hL hb (.inl rfl) h1 h2 hi hg
 |alt a b iha ihb=>
  intro v w g L hL hv hi hg;obtain⟨k,x,y,rfl,hb,h1,h2⟩:=hv;exact xzlo n a b iha ihb 3 k x y w g L hL hb (.inr rfl) h1 h2 hi hg
 |pls a iha=>
  intro v w g L hL hv hi hg;obtain⟨k,x,rfl,hb,h1⟩:=hv;obtain⟨A,hA⟩:=h1.form;subst hA;have HA:=zd (fun(u:World) (hu:On g w u) (hg':BlkIs u g 37 (cellsS L).toArray)=>iha _ u g L hL (BudAt.on hu hg hne h1) hi hg');unfold SetsIs at HA;have HG:=zd hg;have HK:=zd (fun(u:World) (hu:On g w u)=>hu.blk (xzdj hb hg hne) hb);clear iha h1 hg;unfold ndC at hb HK;obtain⟨c0,c1,c2,c3,c4,c5,c6,c7⟩:=hb.eight;clear hb
  go_enter Try.func29,Try.ntmps29
  go_wp2_with fail
  go_at_call 29
  refine(HA.out w (On.refl _ _) HG.out).mono ?_;rintro e u1 ⟨⟨x1,rfl⟩,ho1,hb1⟩;have HU:=zd (And.intro ho1 hb1);clear ho1 hb1 c0 c1 c2 c3 c4 c5 c6 c7;obtain⟨c0,c1,c2,c3,c4,c5,c6,c7⟩:=(HK.out u1 HU.out.1).eight
  go_wp2_with(go_at_call 29;refine(xzfp _ _ _).mono ?_;rintro e u3 ⟨⟨x3,rfl⟩,rfl⟩)
  go_end0
  exact⟨⟨_,rfl⟩,HU.out.1,HU.out.2⟩
end
section
open Go.RowKit
attribute [local irreducible] FreeW
def rowsC (rb:Nat->Nat)(n:Nat):Array Value:=((List.range n).map fun i=>Value.slice (some ⟨rb i,0,none⟩) n n).toArray
theorem xzsm (rb:Nat->Nat){n i:Nat}(h:i<n):(rowsC rb n)[i]? =some (.slice (some ⟨rb i,0,none⟩) n n):=by
 unfold rowsC;rw [List.getElem?_toArray,List.getElem?_map,List.getElem?_range h];rfl
structure MatAt (u:World)(gm:Nat)(rb:Nat->Nat)(n:Nat)(F:Nat->Nat->Bool):Prop where
 row:BlkIs u gm 28 (rowsC rb n)
 cell:∀ i,i<n->BlkIs u (rb i) 4 (bl n (F i))
 inj:∀ i j,i<n->j<n->rb i=rb j->i=j
structure OnM (rb:Nat->Nat)(n:Nat)(u u':World):Prop where
 os:u'.os=u.os
 tape:u'.tape=u.tape
 output:u'.output=u.output
 size:u.heap.size<=u'.heap.size
 block:∀ k,k<u.heap.size->(∀ i,i<n->k≠rb i)->u'.heap[k]? =u.heap[k]?
theorem OnM.refl (rb:Nat->Nat)(n:Nat)(u:World):OnM rb n u u:=⟨rfl,rfl,rfl,Nat.le_refl _,fun _ _ _=>rfl⟩
theorem OnM.trans {rb:Nat->Nat}{n:Nat}{u v w:World}(h:OnM rb n u v)(h':OnM rb n v w):OnM rb n u w:=
 ⟨h'.os.trans h.os,h'.tape.trans h.tape,h'.output.trans h.output,Nat.le_trans h.size h'.size,fun k hk hg=>(h'.block k (Nat.lt_of_lt_of_le hk h.size) hg).trans (h.block k hk hg)⟩
theorem OnM.of {rb:Nat->Nat}{n:Nat}{u u':World}(h:Below u.heap.size u u'):OnM rb n u u':=⟨h.os,h.tape,h.output,h.size,fun k hk _=>h.block k hk⟩
theorem OnM.new {rb:Nat->Nat}{n g:Nat}{u v w:World}(h:OnM rb n u v)(h':On g v w)(hg:u.heap.size<=g):OnM rb n u w:=
 ⟨h'.os.trans h.os,h'.tape.trans h.tape,h'.output.trans h.output,Nat.le_trans h.size h'.size,fun k hk hk2=>(h'.block k (Nat.lt_of_lt_of_le hk h.size) (by omega)).trans (h.block k hk hk2)⟩
theorem OnM.put {rb:Nat->Nat}{n i o:Nat}{u v:World}(h:OnM rb n u v)(hi:i<n)(x:Value):OnM rb n u (v.setCell ⟨rb i,o,none⟩ x):=
 h.trans ⟨rfl,rfl,rfl,by rw [World.size_setCell];exact Nat.le_refl _,fun k _ hk=>Below.heap_setCell _ _ _ _ (hk i hi)⟩
theorem OnM.blk {rb:Nat->Nat}{n k:Nat}{u u':World}{t:TypeId}{cs:Array Value}(h:OnM rb n u u')(hk:∀ i,i<n->k≠rb i)(hb:BlkIs u k t cs):BlkIs u' k t cs:=(h.block k hb.lt hk).trans hb
theorem OnM.typ {rb:Nat->Nat}{n gm k:Nat}{F:Nat->Nat->Bool}{u u':World}{t:TypeId}{cs:Array Value}(h:OnM rb n u u')(hm:MatAt u gm rb n F)(ht:t≠4)(hb:BlkIs u k t cs):BlkIs u' k t cs:=
 h.blk (fun i hi=>xzdj hb (hm.cell i hi) ht) hb
theorem BudAt.onM {rb:Nat->Nat}{n gm:Nat}{F:Nat->Nat->Bool}{u u':World}(h:OnM rb n u u')(hm:MatAt u gm rb n F){N:Bud}{v:Value}(hv:BudAt u N v):BudAt u' N v:=
 hv.kept fun _ _ hk=>h.typ hm (by decide) hk
theorem MatAt.on {g gm n:Nat}{rb:Nat->Nat}{F:Nat->Nat->Bool}{u u':World}(h:On g u u')(hm:MatAt u gm rb n F)(hg:gm≠g)(hr:∀ i,i<n->rb i≠g):MatAt u' gm rb n F:=
 ⟨h.blk hg hm.row,fun i hi=>h.blk (hr i hi) (hm.cell i hi),hm.inj⟩
theorem MatAt.of {gm n:Nat}{rb:Nat->Nat}{F F':Nat->Nat->Bool}{u:World}(hm:MatAt u gm rb n F)(h:∀ i q,F i q=F' i q):MatAt u gm rb n F':=by
 obtain rfl:F=F':=by funext i q;exact h i q
 exact hm
theorem MatAt.step {gm n:Nat}{rb:Nat->Nat}{F:Nat->Nat->Bool}{u u':World}(hm:MatAt u gm rb n F)(h:Below u.heap.size u u'):MatAt u' gm rb n F:=
 ⟨hm.row.step h,fun i hi=>(hm.cell i hi).step h,hm.inj⟩
theorem MatAt.drew {gm n:Nat}{rb:Nat->Nat}{F:Nat->Nat->Bool}{u:World}(hm:MatAt u gm rb n F):MatAt u.drew gm rb n F:=⟨hm.row.drew,fun i hi=>(hm.cell i hi).drew,hm.inj⟩
theorem MatAt.put {gm n p q:Nat}{rb:Nat->Nat}{F F':Nat->Nat->Bool}{u:World}(hm:MatAt u gm rb n F)(hp:p<n)(x:Bool)(h:∀ i,i<n->∀ j,j<n->F' i j=if i=p/\j=q then x else F i j):MatAt (u.setCell ⟨rb p,q,none⟩ (.bool x)) gm rb n F':=by
 have hgm:gm≠rb p:=xzdj hm.row (hm.cell p hp) (by decide);refine⟨hm.row.far hgm _,fun i hi=>?_,hm.inj⟩
 by_cases hip:i=p
 ·subst hip
  have:=(hm.cell i hi).put q (.bool x);rw [xzgq]at this
  have e:bl n (updS (F i) q x)=bl n (F' i):=xzbi fun j hj=>by
   rw [h i hi j hj];unfold updS
   by_cases hj2:j=q<;>simp [hj2]
  rw [e]at this;exact this
 ·have e:bl n (F i)=bl n (F' i):=xzbi fun j hj=>by
   rw [h i hi j hj,if_neg (fun hh=>hip hh.1)]
  rw [<-e];exact(hm.cell i hi).far (fun hh=>hip (hm.inj i p hi hp hh)) _
theorem MatAt.at {gm n i:Nat}{rb:Nat->Nat}{F:Nat->Nat->Bool}{u:World}(hm:MatAt u gm rb n F)(hi:i<n):u.cell? ⟨gm,i,none⟩=some (.slice (some ⟨rb i,0,none⟩) n n):=(hm.row.cell i).trans (xzsm rb hi)
theorem MatAt.far {gm n:Nat}{rb:Nat->Nat}{F:Nat->Nat->Bool}{u:World}(hm:MatAt u gm rb n F):gm<u.heap.size/\∀ i,i<n->rb i<u.heap.size:=⟨hm.row.lt,fun i hi=>(hm.cell i hi).lt⟩
theorem MatAt.cong {gm n:Nat}{rb:Nat->Nat}{F F':Nat->Nat->Bool}{u:World}(hm:MatAt u gm rb n F)(h:∀ i,i<n->∀ q,q<n->F i q=F' i q):MatAt u gm rb n F':=
 ⟨hm.row,fun i hi=>by
  rw [<-show bl n (F i)=bl n (F' i)from xzbi fun q hq=>h i hi q hq]
  exact hm.cell i hi,hm.inj⟩
structure Two (w u2 u4:World)(n gl gf:Nat):Prop where
 ge1:u2.heap.size<=gl
 ge2:u2.heap.size<=gf
 ne:gl≠gf
 b1:BlkIs u4 gl 4 (bl n fun _=>false)
 b2:BlkIs u4 gf 4 (bl n fun _=>false)
 below:Below u2.heap.size u2 u4
theorem xzlp (w u:World)(n:Nat):Two w u ((u.alloc (.cells (bl n fun _=>false) 4)).alloc (.cells (bl n fun _=>false) 4)).drew n u.heap.size (u.heap.size+1):=
 ⟨Nat.le_refl _,Nat.le_succ _,fun h=>Nat.succ_ne_self _ h.symm,((BlkIs.new u _ _).alloc _).drew,by
  have:=(BlkIs.new (u.alloc (.cells (bl n fun _=>false) 4)) 4 (bl n fun _=>false)).drew
  simpa [World.size_alloc]using this,(((Below.refl u.heap.size u).alloc (Nat.le_refl _) _).alloc (by rw [World.size_alloc];omega) _).drew⟩
theorem Two.symm {w u2 u4:World}{n gl gf:Nat}(h:Two w u2 u4 n gl gf):Two w u2 u4 n gf gl:=⟨h.ge2,h.ge1,h.ne.symm,h.b2,h.b1,h.below⟩
theorem xzpu {F1:Nat->Nat->Bool}{la fi:Nat->Bool}{i j p q:Nat}(h:la p=false):((F1 i j||(decide (i<p)&&(la i&&fi j)))||(decide (i=p)&&(decide (j<q)&&(la p&&fi j))))=(F1 i j||(decide (i<p+1)&&(la i&&fi j))):=by
 rcases Nat.lt_trichotomy i p with h1|rfl|h1
 ·simp [h1,Nat.lt_succ_of_lt h1,Nat.ne_of_lt h1]
 ·simp [h]
 ·have e1: ¬ i<p:=by omega
  have e2: ¬ i<p+1:=by omega
  have e3: ¬ i=p:=by omega
  simp [e1,e2,e3]
theorem xzlq {G H:Nat->Nat->Bool}{la fi:Nat->Bool}{p q:Nat}{val:Bool}(hH:∀ i j,H i j=(G i j||(decide (i=p)&&(decide (j<q)&&(la p&&fi j)))))(hl:la p=true)(hv:val=(H p q||fi q))(i j:Nat):
 (G i j||(decide (i=p)&&(decide (j<q+1)&&(la p&&fi j))))=if i=p/\j=q then val else H i j:=by
 by_cases hi:i=p
 ·subst hi
  by_cases hj:j=q
  ·subst hj
   rw [if_pos ⟨rfl,rfl⟩,hv,hH];simp [hl]
  ·have e:decide (j<q+1)=decide (j<q):=decide_eq_decide.2 (by omega)
   rw [if_neg (fun h=>hj h.2),hH,e]
 ·rw [if_neg (fun h=>hi h.1),hH];simp [hi]
theorem xztg {F1:Nat->Nat->Bool}{la fi:Nat->Bool}{i j p n:Nat}(h:j<n):((F1 i j||(decide (i<p)&&(la i&&fi j)))||(decide (i=p)&&(decide (j<n)&&(la p&&fi j))))=(F1 i j||(decide (i<p+1)&&(la i&&fi j))):=by
 rcases Nat.lt_trichotomy i p with h1|rfl|h1
 ·simp [h1,Nat.lt_succ_of_lt h1,Nat.ne_of_lt h1]
 ·simp [h]
 ·have e1: ¬ i<p:=by omega
  have e2: ¬ i<p+1:=by omega
  have e3: ¬ i=p:=by omega
  simp [e1,e2,e3]
def PairsIs (gm:Nat)(rb:Nat->Nat)(n:Nat)(F:Nat->Nat->Bool)(w:World):Ending->World->Prop:=fun e w'=>(∃ x,e=.returned x)/\OnM rb n w w'/\MatAt w' gm rb n F
theorem PairsIs.of {gm n:Nat}{rb:Nat->Nat}{F F':Nat->Nat->Bool}{w:World}{e:Ending}{w':World}(h:PairsIs gm rb n F w e w')(hf:∀ i q,F i q=F' i q):PairsIs gm rb n F' w e w':=
 ⟨h.1,h.2.1,h.2.2.of hf⟩
set_option maxRecDepth 20000 in
theorem xzjd (n gm:Nat)(w:World):Calls Try.prog 31 #[.pointer none,.slice (some ⟨gm,0,none⟩) n n] w (SameIs w):=by
 go_enter Try.func31,Try.ntmps31
 go_wp2
 go_end0
 exact⟨⟨_,rfl⟩,rfl⟩
set_option maxRecDepth 20000 in
set_option maxHeartbeats 16000000 in
theorem xzpv (n gm:Nat)(rb:Nat->Nat)(hn:n<=1048576)(a b:Bud)(iha:∀ (v:Value) (w:World) (F:Nat->Nat->Bool),BudAt w a v->a.inN n->MatAt w gm rb n F->Calls Try.prog 31 #[v,.slice (some ⟨gm,0,none⟩) n n] w (PairsIs gm rb n (fun i q=>F i q||a.pr i q) w))(ihb:∀ (v:Value) (w:World) (F:Nat->Nat->Bool),BudAt w b v->b.inN n->MatAt w gm rb n F->Calls Try.prog 31 #[v,.slice (some ⟨gm,0,none⟩) n n] w (PairsIs gm rb n (fun i q=>F i q||b.pr i q) w))(v:Value)(w:World)(F:Nat->Nat->Bool)(hv:BudAt w (Bud.cat a b) v)(hi:(Bud.cat a b).inN n)(hm:MatAt w gm rb n F):
 Calls Try.prog 31 #[v,.slice (some ⟨gm,0,none⟩) n n] w (PairsIs gm rb n (fun i q=>F i q||(Bud.cat a b).pr i q) w):=by
 have hmk:=fun u=>xzbd n (by omega) u
 obtain⟨k,x,y,rfl,hb,h1,h2⟩:=hv;obtain⟨A,hA⟩:=h1.form;obtain⟨B,hB⟩:=h2.form;subst hA;subst hB;have hia:=hi.1;have hib:=hi.2;have HA:=zd (iha _ w F h1 hia hm);have HB:=zd (fun(u:World) (F':Nat->Nat->Bool) (hu:OnM rb n w u) (hg':MatAt u gm rb n F')=>ihb _ u F' (BudAt.onM hu hm h2) hib hg');have HRA:=zd (fun(ends:Bool) (u:World) (g:Nat) (f:Nat->Bool) (hu:OnM rb n w u) (hg:BlkIs u g 4 (bl n f))=>xzev n ends a _ u g f (BudAt.onM hu hm h1) hia hg);have HRZ:=zd (fun(ends:Bool) (u:World) (g:Nat) (f:Nat->Bool) (hu:OnM rb n w u) (hg:BlkIs u g 4 (bl n f))=>xzev n ends b _ u g f (BudAt.onM hu hm h2) hib hg);unfold PairsIs at HA HB;unfold RimIs at HRA HRZ;have HK:=zd (fun(u:World) (hu:OnM rb n w u)=>hu.typ hm (by decide) hb);have HFAR:=zd hm.far;clear iha ihb h2 h1 hm;unfold ndC at hb HK;obtain⟨c0,c1,c2,c3,c4,c5,c6,c7⟩:=hb.eight;clear hb
 go_enter Try.func31,Try.ntmps31
 go_wp2_with fail
 go_at_call 31
 refine HA.out.mono ?_;rintro e u1 ⟨⟨x1,rfl⟩,ho1,hm1⟩;have HU:=zd (And.intro ho1 hm1);clear HA ho1 hm1 c0 c1 c2 c3 c4 c5 c6 c7;obtain⟨c0,c1,c2,c3,c4,c5,c6,c7⟩:=(HK.out u1 HU.out.1).eight
 go_wp2_with fail
 go_at_call 31
 refine(HB.out u1 _ HU.out.1 HU.out.2).mono ?_;rintro e u2 ⟨⟨x2,rfl⟩,ho2,hm2⟩;have HV:=zd (And.intro (HU.out.1.trans ho2) hm2);clear ho2 hm2 HB c0 c1 c2 c3 c4 c5 c6 c7;obtain⟨c0,c1,c2,c3,c4,c5,c6,c7⟩:=(HK.out u2 HV.out.1).eight;go_wp2;clear c0 c1 c2 c3 c4 c5 c6 c7
 go_region
 have hN:=(xzlp w u2 n);obtain⟨u4,hu4⟩:∃ u4,((u2.alloc (Obj.cells (bl n fun _=>false) 4)).alloc (Obj.cells (bl n fun _=>false) 4)).drew=u4:=⟨_,rfl⟩;rw [hu4]at hN ⊢;obtain⟨gf,hgf,hgf'⟩:∃ g,u2.heap.size+1=g/\Two w u2 u4 n u2.heap.size g:=⟨_,rfl,hN⟩;rw [hgf];obtain⟨gl,hgl,hgl'⟩:∃ g,u2.heap.size=g/\Two w u2 u4 n g gf:=⟨_,rfl,hgf'⟩;rw [hgl];have HN:=zd hgl';clear hgf hgl hu4 hN hgf' hgl'
 rotate_left
 have hN:=(xzlp w u2 n).symm;obtain⟨u4,hu4⟩:∃ u4,((u2.alloc (Obj.cells (bl n fun _=>false) 4)).alloc (Obj.cells (bl n fun _=>false) 4)).drew=u4:=⟨_,rfl⟩;rw [hu4]at hN ⊢;obtain⟨gl,hgl,hgl'⟩:∃ g,u2.heap.size+1=g/\Two w u2 u4 n g u2.heap.size:=⟨_,rfl,hN⟩;rw [hgl];obtain⟨gf,hgf,hgf'⟩:∃ g,u2.heap.size=g/\Two w u2 u4 n gl g:=⟨_,rfl,hgl'⟩;rw [hgf];have HN:=zd hgf';clear hgl hgf hu4 hN hgl' hgf'
 rotate_left
 all_goals
  have ho4:=HV.out.1.trans (OnM.of HN.out.below);have hm4:=HV.out.2.step HN.out.below;have hws:=HV.out.1.size;have hg1:=HN.out.ge1;have hg2:=HN.out.ge2;have HS:=zd (And.intro ho4 hm4);have HG:=zd (And.intro (Nat.le_trans hws hg1) (And.intro (Nat.le_trans hws hg2) HN.out.ne));have HB4:=zd (And.intro HN.out.b1 HN.out.b2);clear HV HU ho4 hm4 hws hg1 hg2 HN;obtain⟨c0,c1,c2,c3,c4,c5,c6,c7⟩:=(HK.out u4 HS.out.1).eight
  go_wp2_with fail
  go_at_call 30
  refine(HRA.out true u4 gl _ HS.out.1 HB4.out.1).mono ?_;rintro e u5 ⟨⟨x5,rfl⟩,ho5,hb5⟩
  have hmat:=fun {g:Nat} (h:w.heap.size<=g)=>(And.intro (fun e=>by have:=HFAR.out.1;omega:gm≠g) (fun i hi e=>by have:=HFAR.out.2 i hi;omega:∀ i,i<n->rb i≠g))
  have HMT:=zd (And.intro (@hmat gl HG.out.1) (@hmat gf HG.out.2.1));have hS5:=And.intro (HS.out.1.new ho5 HG.out.1) (HS.out.2.on ho5 HMT.out.1.1 HMT.out.1.2);have hf5:=ho5.blk (fun e=>HG.out.2.2 e.symm) HB4.out.2;obtain⟨la,hla⟩:∃ la:Nat->Bool,(fun q=>false||a.rm true q)=la:=⟨_,rfl⟩;rw [hla]at hb5;have HLA:=zd hla;have HS5:=zd (And.intro hS5 (And.intro hb5 hf5));clear hmat hS5 hf5 ho5 hb5 hla HS HB4 c0 c1 c2 c3 c4 c5 c6 c7;obtain⟨c0,c1,c2,c3,c4,c5,c6,c7⟩:=(HK.out u5 HS5.out.1.1).eight
  go_wp2_with fail
  go_at_call 30
  refine(HRZ.out false u5 gf _ HS5.out.1.1 HS5.out.2.2).mono ?_;rintro e u6 ⟨⟨x6,rfl⟩,ho6,hb6⟩;obtain⟨fi,hfi⟩:∃ fi:Nat->Bool,(fun q=>false||b.rm false q)=fi:=⟨_,rfl⟩;rw [hfi]at hb6;have HFI:=zd hfi;have hl6:=ho6.blk HG.out.2.2 HS5.out.2.1;have hm6:=HS5.out.1.2.on ho6 HMT.out.2.1 HMT.out.2.2;obtain⟨F1,hF1⟩:∃ F1:Nat->Nat->Bool,(fun i q=>(F i q||a.pr i q)||b.pr i q)=F1:=⟨_,rfl⟩;rw [hF1]at hm6;have HF1:=zd hF1;have HS6:=zd (And.intro (HS5.out.1.1.new ho6 HG.out.2.1) (And.intro hm6 (And.intro hl6 hb6)));clear hfi hl6 hm6 hF1 ho6 hb6 HS5 HRA HRZ HK c0 c1 c2 c3 c4 c5 c6 c7;go_wp2
  go_loopw [6] (fun i wr=>∃ p:Nat,i=.int .i64 p/\p<=n/\Hid (OnM rb n w wr/\MatAt wr gm rb n (fun i q=>F1 i q||(decide (i<p)&&(la i&&fi q)))/\BlkIs wr gl 4 (bl n la)/\BlkIs wr gf 4 (bl n fi))) (fun i _=>n - (intOf i).toNat)
  case atStart=>exact⟨0,rfl,Nat.zero_le _,zd ⟨HS6.out.1,HS6.out.2.1.of (fun i q=>by simp),HS6.out.2.2.1,HS6.out.2.2.2⟩⟩
  case round=>
   obtain⟨p,rfl,hp,HH⟩:=hrel
   by_cases hpn:p<n
   ·have hk1:IntKind.i64.wrap ((p:Int)+1)=((p+1:Nat):Int):=by rw [IntKind.wrap_i64];omega
    have hdp:decide ((p:Int)<(n:Int))=true:=by simp;omega
    have hi1:(p:Int)<(n:Int):=by omega
    obtain⟨G,hG⟩:∃ G:Nat->Nat->Bool,(fun i q=>F1 i q||(decide (i<p)&&(la i&&fi q)))=G:=⟨_,rfl⟩;have hh:=HH.out;rw [hG]at hh;have HH2:=zd hh;have HGG:=zd hG;clear HH hh hG;go_wp2
    go_loopw [7] (fun i wz=>∃ q:Nat,i=.int .i64 q/\q<=n/\Hid (OnM rb n w wz/\MatAt wz gm rb n (fun i j=>G i j||(decide (i=p)&&(decide (j<q)&&(la p&&fi j))))/\BlkIs wz gl 4 (bl n la)/\BlkIs wz gf 4 (bl n fi))) (fun i _=>n - (intOf i).toNat)
    case atStart=>exact⟨0,rfl,Nat.zero_le _,zd ⟨HH2.out.1,HH2.out.2.1.of (fun i q=>by simp),HH2.out.2.2.1,HH2.out.2.2.2⟩⟩
    case round=>
     obtain⟨q,rfl,hq,HZ⟩:=hrel;obtain⟨H,hH⟩:∃ H:Nat->Nat->Bool,(fun i j=>G i j||(decide (i=p)&&(decide (j<q)&&(la p&&fi j))))=H:=⟨_,rfl⟩;have hz:=HZ.out;rw [hH]at hz;have HZ2:=zd hz;have HHH:=zd hH;clear HZ hz hH
     by_cases hqn:q<n
     ·have hk2:IntKind.i64.wrap ((q:Int)+1)=((q+1:Nat):Int):=by rw [IntKind.wrap_i64];omega
      have hdq:decide ((q:Int)<(n:Int))=true:=by simp;omega
      have hi2:(q:Int)<(n:Int):=by omega
      have y9:=xzao HZ2.out.2.2.1 hpn
      cases hlp:la p with
      |false=>
       rw [hlp]at y9;have HLP:=zd hlp;clear hlp;go_wp2
       exact⟨⟨p+1,rfl,hpn,zd ⟨HZ2.out.1,HZ2.out.2.1.cong fun i _ j _=>by
        rw [<-HHH.out,<-HGG.out]
        exact xzpu HLP.out,HZ2.out.2.2.1,HZ2.out.2.2.2⟩⟩,by simp [intOf];omega⟩
      |true=>
       rw [hlp]at y9;have HLP:=zd hlp;clear hlp;obtain⟨x,hx⟩:∃ x,H p q=x:=⟨_,rfl⟩;have HX:=zd hx;clear hx
       go_wp2_with fail
       refine xzat 19 19 100 (fun u=>Hid (OnM rb n w u/\MatAt u gm rb n H/\BlkIs u gl 4 (bl n la)/\BlkIs u gf 4 (bl n fi))) (fun _=>#[]) (fun _=>0) (by kernel_rfl) (by kernel_rfl) rfl (zd ⟨HZ2.out.1.trans (OnM.of (Below.refl _ _).drew),HZ2.out.2.1.drew,HZ2.out.2.2.1.drew,HZ2.out.2.2.2.drew⟩) (fun u u' h hb=>zd ⟨h.out.1.trans (OnM.of hb),h.out.2.1.step hb,h.out.2.2.1.step hb,h.out.2.2.2.step hb⟩) (fun i o h1 h2=>absurd h1 (by omega)) ?_;clear y9;simp only [List.take_succ_cons,List.take_zero,List.drop_succ_cons,List.drop_zero]
       cases x with
       |true=>
        repeat
         refine xzae fun K hK=>?_
         first
          |((first
           |(refine xzcp 12 93 false rfl rfl ?_ ?_;(focus (go_simp;done))))
            have HK:=zd hK;clear hK;go_simp;have hK:=HK.out;clear HK;refine hK _ ?_
            clear hK K)
          |(skip
            (first
             |skip)
            go_simp
            apply Exists.intro
            refine⟨fun u h1=>?_,hK _ ?_⟩
            ·have y0:=h1.out.2.1.at hpn
             have y1:=xzao (h1.out.2.1.cell p hpn) hqn;rw [HX.out]at y1;have y2:=xzao h1.out.2.2.2 hqn;unfold freeAt;go_simp
             first
              |exact xzah
              |(apply xzag
                first
                 |fail
                )
            clear hK K)
        refine xzay ?_;intro gg u7 hC hb7 _ _;have HD:=zd hC.out;clear hC hb7;rw [Nat.sub_self,List.take_zero];unfold putNews;have z1:=xzao (HD.out.2.1.cell p hpn) hqn;have z2:=(HD.out.2.1.cell p hpn).frozen q;go_wp2;exact⟨⟨q+1,rfl,hqn,zd ⟨HD.out.1.put hpn _,HD.out.2.1.put hpn true (fun i _ j _=>by have hh:=xzlq (G:=G) (H:=H) (la:=la) (fi:=fi) (p:=p) (q:=q) (val:=true) (fun a b=>(congrFun (congrFun HHH.out a) b).symm) HLP.out (by simp [HX.out]) i j;rw [HLP.out]at hh;exact hh),HD.out.2.2.1.far (fun e=>HMT.out.1.2 p hpn e.symm) _,HD.out.2.2.2.far (fun e=>HMT.out.2.2 p hpn e.symm) _⟩⟩,by simp [intOf];omega⟩
       |false=>
        repeat
         refine xzae fun K hK=>?_
         (first
          |(refine xzbo 12 93 false rfl rfl ?_ ?_;(focus (go_simp;done)))
          |skip)
         go_simp
         apply Exists.intro
         refine⟨fun u h1=>?_,hK _ ?_⟩
         ·have y0:=h1.out.2.1.at hpn
          have y1:=xzao (h1.out.2.1.cell p hpn) hqn;rw [HX.out]at y1;have y2:=xzao h1.out.2.2.2 hqn;unfold freeAt;go_simp
          first
           |exact xzah
           |(apply xzag
             first
              |fail
             )
         clear hK K
        refine xzay ?_;intro gg u7 hC hb7 _ _;have HD:=zd hC.out;clear hC hb7;rw [Nat.sub_self,List.take_zero];unfold putNews;have z1:=xzao (HD.out.2.1.cell p hpn) hqn;have z2:=(HD.out.2.1.cell p hpn).frozen q;go_wp2;exact⟨⟨q+1,rfl,hqn,zd ⟨HD.out.1.put hpn _,HD.out.2.1.put hpn (fi q) (fun i _ j _=>by have hh:=xzlq (G:=G) (H:=H) (la:=la) (fi:=fi) (p:=p) (q:=q) (val:=(fi q)) (fun a b=>(congrFun (congrFun HHH.out a) b).symm) HLP.out (by simp [HX.out]) i j;rw [HLP.out]at hh;exact hh),HD.out.2.2.1.far (fun e=>HMT.out.1.2 p hpn e.symm) _,HD.out.2.2.2.far (fun e=>HMT.out.2.2 p hpn e.symm) _⟩⟩,by simp [intOf];omega⟩
     ·have hdq:decide ((q:Int)<(n:Int))=false:=by simp;omega
      obtain rfl:q=n:=by omega
      go_wp2
      exact⟨⟨p+1,rfl,hpn,zd ⟨HZ2.out.1,HZ2.out.2.1.cong fun i _ j hj=>by
       rw [<-HHH.out,<-HGG.out]
       exact xztg hj,HZ2.out.2.2.1,HZ2.out.2.2.2⟩⟩,by simp [intOf];omega⟩
   ·have hdp:decide ((p:Int)<(n:Int))=false:=by simp;omega
    obtain rfl:p=n:=by omega
    go_wp2
    go_end0
    refine PairsIs.of ⟨⟨_,rfl⟩,HH.out.1,HH.out.2.1.cong (F':=fun i q=>F i q||(Bud.cat a b).pr i q) fun i hi q hq=>?_⟩ fun i q=>rfl
    rw [<-HF1.out,<-HLA.out,<-HFI.out]
    simp [Bud.rm,Bud.pr,hi,Bool.or_assoc]
end
end Go.Proofs.Ythoaaginadjaoaa
