/-
 hackleref08's Build: what stands behind its first loop. No condition.
-/
import Derived.Test.YthoaaginadjaoaaQG41
namespace Go.Proofs.Ythoaaginadjaoaa
section
open Go.RowKit
structure Off (S:Nat->Prop)(u u':World):Prop where
 os:u'.os=u.os
 tape:u'.tape=u.tape
 output:u'.output=u.output
 size:u.heap.size<=u'.heap.size
 block:∀ k,k<u.heap.size-> ¬ S k->u'.heap[k]? =u.heap[k]?
theorem On.off {g:Nat}{u u':World}(h:On g u u'):Off (fun k=>k=g) u u':=⟨h.os,h.tape,h.output,h.size,fun k hk hs=>h.block k hk hs⟩
theorem OnM.off {rb:Nat->Nat}{n:Nat}{u u':World}(h:OnM rb n u u'):Off (fun k=>∃ i,i<n/\k=rb i) u u':=⟨h.os,h.tape,h.output,h.size,fun k hk hs=>h.block k hk fun i hi e=>hs ⟨i,hi,e⟩⟩
theorem Off.below {u u':World}(h:Below u.heap.size u u'):Off (fun _=>False) u u':=⟨h.os,h.tape,h.output,h.size,fun k hk _=>h.block k hk⟩
theorem Off.blk {S:Nat->Prop}{k:Nat}{u u':World}{t:TypeId}{cs:Array Value}(h:Off S u u')(hk: ¬ S k)(hb:BlkIs u k t cs):BlkIs u' k t cs:=(h.block k hb.lt hk).trans hb
structure Bse (w u:World)(n j:Nat)(R:List Int)(Ns:List Bud)(u5 vr:Value):Prop where
 below:Below w.heap.size w u
 b0:BlkIs u w.heap.size 42 #[.slice none 0 0,.slice none 0 0,.slice none 0 0,.slice none 0 0,.slice none 0 0,.int .i64 0]
 b2:BlkIs u (w.heap.size+2) 3 #[.int .i64 (n:Nat)]
 own:∃ xs,u.ownsRow (w.heap.size+3) 55 1 u5 j xs/\NdL u Ns xs
 rul:RowI (w.heap.size+3) u vr R
 sz:w.heap.size+3<=u.heap.size
theorem Bse.off {w u u':World}{n j:Nat}{R:List Int}{Ns:List Bud}{u5 vr:Value}(h:Bse w u n j R Ns u5 vr){S:Nat->Prop}(ho:Off S u u')
 (hS:∀ k,S k->(w.heap.size<k/\k≠w.heap.size+2)/\∃ t cs,BlkIs u k t cs/\81≠t/\t≠55/\t≠3):Bse w u' n j R Ns u5 vr:=by
 obtain⟨xs,g1,g2⟩:=h.own
 refine⟨⟨ho.os.trans h.below.os,ho.tape.trans h.below.tape,ho.output.trans h.below.output,Nat.le_trans h.below.size ho.size,fun k hk=>(ho.block k (Nat.lt_of_lt_of_le hk h.below.size) fun hs=>?_).trans (h.below.block k hk)⟩,
  ho.blk (fun hs=>?_) h.b0,ho.blk (fun hs=>?_) h.b2,⟨xs,xzaq g1 fun k hk=>?_,g2.kept fun k cs hk=>ho.blk (fun hs=>?_) hk⟩,xzaq h.rul fun k hk=>?_,Nat.le_trans h.sz ho.size⟩
 ·have:=(hS k hs).1;omega
 ·have:=(hS _ hs).1;omega
 ·have:=(hS _ hs).1;omega
 ·refine ho.block k (World.ownsRow.lt g1 k hk).2 fun hs=>?_
  obtain⟨_,t,cs,hb,_,ht,_⟩:=hS k hs;exact xzct g1 hb ht hk.symm
 ·obtain⟨_,t,cs',hb,ht,_⟩:=hS k hs
  exact xzdj hk hb ht rfl
 ·have hr:=h.rul
  unfold RowI at hr
  refine ho.block k (World.ownsRow.lt hr k hk).2 fun hs=>?_
  obtain⟨_,t,cs,hb,_,_,ht⟩:=hS k hs;exact xzem hr hb ht hk.symm
theorem BldA.bse {w u:World}{j cnt:Nat}{em:Int}{R:List Int}{Ns:List Bud}{u5 vr:Value}(h:BldA w u j cnt em R Ns u5 vr):Bse w u cnt j R Ns u5 vr:=⟨h.below,h.b0,h.b2,h.own,h.rul,h.sz⟩
def mixC (rb:Nat->Nat)(n i:Nat):Array Value:=((List.range n).map fun k=>if k<i then Value.slice (some ⟨rb k,0,none⟩) n n else .slice none 0 0).toArray
theorem xzsu (rb:Nat->Nat)(n:Nat):madeCells #[.slice none 0 0] n=mixC rb n 0:=by
 refine Array.ext_getElem? fun i=>?_
 unfold madeCells mixC
 by_cases h:i<n<;>simp [h,Nat.mod_one]
theorem xzvg (rb:Nat->Nat)(n:Nat):mixC rb n n=rowsC rb n:=by
 refine Array.ext_getElem? fun i=>?_
 unfold mixC rowsC
 by_cases h:i<n<;>simp [h]
theorem xzvh (rb:Nat->Nat)(n i:Nat)(h:i<n):(mixC rb n i).setIfInBounds i (.slice (some ⟨rb i,0,none⟩) n n)=mixC rb n (i+1):=by
 refine Array.ext_getElem? fun j=>?_
 unfold mixC
 by_cases hj:j<n
 ·by_cases e:j=i
  ·subst e;simp [hj]
  ·have e2:(j<i+1)=(j<i):=by simp only [eq_iff_iff];omega
   rw [Array.getElem?_setIfInBounds_ne (Ne.symm e)]
   simp [hj,e2]
 ·rw [Array.getElem?_eq_none (by simp;omega),Array.getElem?_eq_none (by simp;omega)]
structure BldM (wx u:World)(s n i:Nat):Prop where
 on:On (s+3) wx u
 size:u.heap.size=s+4+i
 row:BlkIs u (s+3) 28 (mixC (fun k=>s+4+k) n i)
 cells:∀ k,k<i->BlkIs u (s+4+k) 4 (bl n fun _=>false)
theorem BldM.more {wx u:World}{s n i:Nat}(h:BldM wx u s n i)(hi:i<n):BldM wx (((u.alloc (.cells (bl n fun _=>false) 4))).setCell ⟨s+3,i,none⟩ (.slice (some ⟨u.heap.size,0,none⟩) n n)) s n (i+1):=by
 have hsz:=h.size;refine⟨(h.on.trans (On.of ((Below.refl _ _).alloc (Nat.le_refl _) _))).trans (On.put _),by rw [World.size_setCell,World.size_alloc,hsz];omega,?_,fun k hk=>?_⟩
 ·have:=(h.row.alloc (.cells (bl n fun _=>false) 4)).put i (.slice (some ⟨u.heap.size,0,none⟩) n n)
  rw [show u.heap.size=(fun k=>s+4+k) i from hsz,xzvh _ n i hi]at this;rw [show u.heap.size=(fun k=>s+4+k) i from hsz];exact this
 ·refine BlkIs.far ?_ (by show _≠s+3;omega) _
  by_cases e:k=i
  ·subst e
   rw [<-hsz];exact BlkIs.new _ _ _
  ·exact(h.cells k (by omega)).alloc _
theorem BldM.mat {wx u:World}{s n:Nat}(h:BldM wx u s n n):MatAt u (s+3) (fun k=>s+4+k) n fun _ _=>false:=
 ⟨by rw [<-xzvg];exact h.row,h.cells,fun i j _ _ e=>by have:s+4+i=s+4+j:=e;omega⟩
structure BldD (w u:World)(s n j:Nat)(em:Int)(R:List Int)(Ns:List Bud)(u5 vr:Value)(L:List (Nat->Bool))(fi la:Nat->Bool)(G:Nat->Nat->Bool):Prop where
 bse:Bse w u n j R Ns u5 vr
 b1:BlkIs u (w.heap.size+1) 42 #[.slice (some ⟨s,0,none⟩) n n,vr,.slice none 0 0,.slice none 0 0,.slice (some ⟨s+1,0,none⟩) n n,.int .i64 em]
 s3:w.heap.size+3<=s
 ln:L.length=n
 sets:BlkIs u s 37 (cellsS L).toArray
 ends:BlkIs u (s+1) 4 (bl n la)
 first:BlkIs u (s+2) 4 (bl n fi)
 mat:MatAt u (s+3) (fun k=>s+4+k) n G
section
variable {w u u' : World} {s n j : Nat} {em : Int} {R : List Int} {Ns : List Bud} {u5 vr : Value} {L L' : List (Nat → Bool)} {fi la f' : Nat → Bool} {G G' : Nat → Nat → Bool}
theorem BldD.set (h:BldD w u s n j em R Ns u5 vr L fi la G)(ho:On s u u')(hb:BlkIs u' s 37 (cellsS L').toArray)(hl:L'.length=n):BldD w u' s n j em R Ns u5 vr L' fi la G:=by
 have h3:=h.s3;exact⟨h.bse.off ho.off fun k e=>by subst e;exact⟨by omega,_,_,h.sets,by decide,by decide,by decide⟩,ho.blk (by omega) h.b1,h3,hl,hb,ho.blk (by omega) h.ends,ho.blk (by omega) h.first,h.mat.on ho (by omega) fun i _=>by omega⟩
theorem BldD.begin (h:BldD w u s n j em R Ns u5 vr L fi la G)(ho:On (s+2) u u')(hb:BlkIs u' (s+2) 4 (bl n f')):BldD w u' s n j em R Ns u5 vr L f' la G:=by
 have h3:=h.s3;exact⟨h.bse.off ho.off fun k e=>by subst e;exact⟨by omega,_,_,h.first,by decide,by decide,by decide⟩,ho.blk (by omega) h.b1,h3,h.ln,ho.blk (by omega) h.sets,ho.blk (by omega) h.ends,hb,h.mat.on ho (by omega) fun i _=>by omega⟩
theorem BldD.close (h:BldD w u s n j em R Ns u5 vr L fi la G)(ho:On (s+1) u u')(hb:BlkIs u' (s+1) 4 (bl n f')):BldD w u' s n j em R Ns u5 vr L fi f' G:=by
 have h3:=h.s3;exact⟨h.bse.off ho.off fun k e=>by subst e;exact⟨by omega,_,_,h.ends,by decide,by decide,by decide⟩,ho.blk (by omega) h.b1,h3,h.ln,ho.blk (by omega) h.sets,hb,ho.blk (by omega) h.first,h.mat.on ho (by omega) fun i _=>by omega⟩
theorem BldD.pair (h:BldD w u s n j em R Ns u5 vr L fi la G)(ho:OnM (fun k=>s+4+k) n u u')(hm:MatAt u' (s+3) (fun k=>s+4+k) n G'):BldD w u' s n j em R Ns u5 vr L fi la G':=by
 have h3:=h.s3;exact⟨h.bse.off ho.off fun k ⟨i,hi,e⟩=>by subst e;exact⟨by omega,_,_,h.mat.cell i hi,by decide,by decide,by decide⟩,ho.blk (fun i _=>by omega) h.b1,h3,h.ln,ho.blk (fun i _=>by omega) h.sets,ho.blk (fun i _=>by omega) h.ends,ho.blk (fun i _=>by omega) h.first,hm⟩
theorem BldD.drew (h:BldD w u s n j em R Ns u5 vr L fi la G):BldD w u.drew s n j em R Ns u5 vr L fi la G:=by
 have ho:On s u u.drew:=On.of (Below.refl _ _).drew;exact h.set ho h.sets.drew h.ln
end
theorem sq_snoc (Ns:List Bud)(N:Bud)(L:List (Nat->Bool)):sq (Ns++[N]) L=N.put (sq Ns L):=by unfold sq;rw [List.foldl_append];rfl
theorem xzvi (Ns:List Bud)(N:Bud)(f:Bud->Bool):(Ns++[N]).any f=(Ns.any f||f N):=by simp
end
section
open Go.RowKit
theorem xzqh {B:Nat}{W:World}{v:Value}{n:Nat}{xs:List Value}(hown:W.ownsRow B 26 1 v n xs){b c:Nat}{x:Value}(hnew:W.cell? ⟨b,0,none⟩=some x)(h1:x.oneCell'=true)(hl:n+1<=1073741824)(hB:B<=W.heap.size):
 ∃ v' W',(Builtin.append_ #[27,27] 27 #[v,.slice (some ⟨b,0,none⟩) 1 c]).run Try.prog W=.ok v' W'/\W'.ownsRow B 26 1 v' (n+1) (xs++[x])/\W.grownBy W' v.ownBlock:=by
 obtain⟨i0,hi0,hz0,hz1,hz2⟩:=info_parts xzfk
 have hnw:∀ j u,[x][j]? =some u->W.cell? ((⟨b,0,none⟩:Addr).add j)=some u:=fun j u hu=>by
  cases j with
  |zero=>
   simp only [List.getElem?_cons_zero,zh]at hu;subst hu;rw [Addr.add_lit];exact hnew
  |succ j=>simp at hu
 have hone:∀ u∈[x],u.oneCell'=true:=fun u hu=>by rw [List.mem_singleton.1 hu];exact h1
 obtain⟨v',W',hr,h2,h3,_,h4⟩:=run_append_own_at (P:=Try.prog) (w:=W) B 27 27 26 i0 _ 1 24 Try.underlying27 hi0 hz0 hz1 hz2 rfl (by decide) v n xs hown
  ⟨b,0,none⟩ 1 c [x] rfl hnw hone (by unfold maxLen;omega) (by omega) hB
 exact⟨v',W',hr,h2,h3⟩
def RwL (W:World)(B i:Nat)(f:Nat->List Int)(xs:List Value):Prop:=xs.length=i/\∀ k,k<i->∃ u,xs[k]? =some u/\RowI B W u (f k)
theorem RwL.nil (W:World)(B:Nat)(f:Nat->List Int):RwL W B 0 f []:=⟨rfl,fun _ h=>absurd h (Nat.not_lt_zero _)⟩
theorem RwL.kept {W W':World}{B i:Nat}{f:Nat->List Int}{xs:List Value}(h:RwL W B i f xs)(hk:∀ k cs,B<=k->BlkIs W k 3 cs->W'.heap[k]? =W.heap[k]?):RwL W' B i f xs:=⟨h.1,fun k hi=>by
 obtain⟨u,h1,h2⟩:=h.2 k hi;refine⟨u,h1,xzaq h2 fun q hq=>?_⟩
 rcases h2.2 with⟨e,_⟩|⟨g,cap,cur,e,hb,hg,_⟩
 ·rw [e]at hq;simp [Value.ownBlock]at hq
 ·rw [e]at hq
  simp [Value.ownBlock]at hq
  subst hq
  exact hk g cur hb hg⟩
theorem RwL.step {W W':World}{B i:Nat}{f:Nat->List Int}{xs:List Value}(h:RwL W B i f xs)(hb:Below W.heap.size W W'):RwL W' B i f xs:=h.kept fun _ _ _ hk=>hb.block _ hk.lt
theorem RwL.snoc {W:World}{B i:Nat}{f:Nat->List Int}{xs:List Value}(h:RwL W B i f xs){u:Value}(hu:RowI B W u (f i)):RwL W B (i+1) f (xs++[u]):=by
 have hl:=h.1;refine⟨by simp [hl],fun k hk=>?_⟩
 by_cases e:k=i
 ·subst e
  exact⟨u,by rw [<-hl];simp,hu⟩
 ·obtain⟨u',h1,h2⟩:=h.2 k (by omega)
  exact⟨u',by rw [List.getElem?_append_left (by omega)];exact h1,h2⟩
theorem RowI.lowB {B B':Nat}{W:World}{v:Value}{l:List Int}(h:RowI B W v l)(hb:B'<=B):RowI B' W v l:=
 ⟨h.1,h.2.imp id fun⟨g,cap,cur,e,h1,h2⟩=>⟨g,cap,cur,e,Nat.le_trans hb h1,h2⟩⟩
structure BldF (w wy u:World)(s n i:Nat)(em:Int)(vr vF vfo:Value)(f:Nat->List Int):Prop where
 on:On (w.heap.size+1) wy u
 b1:BlkIs u (w.heap.size+1) 42 #[.slice (some ⟨s,0,none⟩) n n,vr,vF,vfo,.slice (some ⟨s+1,0,none⟩) n n,.int .i64 em]
 lo:w.heap.size+3<=wy.heap.size
 own:∃ xs,u.ownsRow wy.heap.size 26 1 vfo i xs/\RwL u wy.heap.size i f xs
section
variable {w wy u u' : World} {s n i : Nat} {em : Int} {vr vF vfo v' x : Value} {f : Nat → List Int} {xs : List Value}
theorem BldF.step (h:BldF w wy u s n i em vr vF vfo f)(hb:Below u.heap.size u u'):BldF w wy u' s n i em vr vF vfo f:=by
 obtain⟨xs,h1,h2⟩:=h.own;exact⟨h.on.trans (On.of hb),h.b1.step hb,h.lo,xs,xzaq h1 fun k hk=>hb.block k (World.ownsRow.lt h1 k hk).2,h2.step hb⟩
end
theorem BldA.made {w u:World}{j n:Nat}{em:Int}{R:List Int}{Ns:List Bud}{u5 vr:Value}(h:BldA w u j n em R Ns u5 vr)(v0 v4:Value)(C0 C1 C2 C3:Array Value)(W6:World)
 (e:(((((u.alloc (.cells C0 37)).setCell ⟨w.heap.size+1,0,none⟩ v0).alloc (.cells C1 4)).setCell ⟨w.heap.size+1,4,none⟩ v4).alloc (.cells C2 4)).alloc (.cells C3 28)=W6):
 Bse w W6 n j R Ns u5 vr/\BlkIs W6 (w.heap.size+1) 42 #[v0,vr,.slice none 0 0,.slice none 0 0,v4,.int .i64 em]/\BlkIs W6 u.heap.size 37 C0/\BlkIs W6 (u.heap.size+1) 4 C1/\BlkIs W6 (u.heap.size+2) 4 C2/\BlkIs W6 (u.heap.size+3) 28 C3/\W6.heap.size=u.heap.size+4:=by
 have hsz:=h.sz;subst e
 have n1:u.heap.size≠w.heap.size+1:=by omega
 have n2:u.heap.size+1≠w.heap.size+1:=by omega
 refine⟨h.bse.off (S:=fun k=>k=w.heap.size+1) ⟨rfl,rfl,rfl,by simp only [World.size_alloc,World.size_setCell];omega,fun k hk hs=>?_⟩ fun k e=>by subst e;exact⟨by omega,_,_,h.b1,by decide,by decide,by decide⟩,?_,?_,?_,?_,?_,by simp only [World.size_alloc,World.size_setCell]⟩
 ·have a1:=(Below.heap_setCell (u.alloc (.cells C0 37)) ⟨w.heap.size+1,0,none⟩ v0 k hs).trans (Below.heap_alloc u (.cells C0 37) k hk)
  refine(Below.heap_alloc _ _ k (by simp only [World.size_alloc,World.size_setCell];omega)).trans ?_;refine(Below.heap_alloc _ _ k (by simp only [World.size_alloc,World.size_setCell];omega)).trans ?_;refine(Below.heap_setCell _ _ _ k hs).trans ?_;exact(Below.heap_alloc _ _ k (by simp only [World.size_alloc,World.size_setCell];omega)).trans a1
 ·have:=(((((h.b1.alloc (.cells C0 37)).put 0 v0).alloc (.cells C1 4)).put 4 v4).alloc (.cells C2 4)).alloc (.cells C3 28)
  simpa using this
 ·exact(((((BlkIs.new u _ C0).far n1 v0).alloc _).far n1 v4).alloc _).alloc _
 ·have:=BlkIs.new ((u.alloc (.cells C0 37)).setCell ⟨w.heap.size+1,0,none⟩ v0) 4 C1
  simp only [World.size_alloc,World.size_setCell]at this;exact((this.far n2 v4).alloc _).alloc _
 ·have:=BlkIs.new ((((u.alloc (.cells C0 37)).setCell ⟨w.heap.size+1,0,none⟩ v0).alloc (.cells C1 4)).setCell ⟨w.heap.size+1,4,none⟩ v4) 4 C2
  simp only [World.size_alloc,World.size_setCell]at this;exact this.alloc _
 ·have:=BlkIs.new (((((u.alloc (.cells C0 37)).setCell ⟨w.heap.size+1,0,none⟩ v0).alloc (.cells C1 4)).setCell ⟨w.heap.size+1,4,none⟩ v4).alloc (.cells C2 4)) 28 C3
  simp only [World.size_alloc,World.size_setCell]at this;exact this
section
variable {w u u' : World} {s n j : Nat} {em : Int} {R : List Int} {Ns : List Bud} {u5 vr : Value} {L : List (Nat → Bool)} {fi la : Nat → Bool} {G : Nat → Nat → Bool}
theorem BldD.step (h:BldD w u s n j em R Ns u5 vr L fi la G)(hb:Below u.heap.size u u'):BldD w u' s n j em R Ns u5 vr L fi la G:=
 ⟨h.bse.off (Off.below hb) fun _ hk=>hk.elim,h.b1.step hb,h.s3,h.ln,h.sets.step hb,h.ends.step hb,h.first.step hb,h.mat.step hb⟩
theorem BldD.node {g c5 k:Nat}(h:BldD w u s n j em R Ns (.slice (some ⟨g,0,none⟩) j c5) vr L fi la G)(hk:k<Ns.length)(hj:0<j):∃ A,u.cell? ⟨g,k,none⟩=some (.pointer A)/\BudAt u Ns[k] (.pointer A):=by
 obtain⟨xs,h1,h2⟩:=h.bse.own;obtain⟨g',cap,e,_,_,_,hr⟩:=RowB.of h1 hj
 injection e with e
 injection e with e
 injection e with e
 subst e;obtain⟨A,h3,h4⟩:=h2.2 k hk;exact⟨A,hr.at h3,h4⟩
theorem BldD.form (h:BldD w u s n j em R Ns u5 vr L fi la G)(hj:0<j):∃ g c,u5=.slice (some ⟨g,0,none⟩) j c:=by
 obtain⟨xs,h1,h2⟩:=h.bse.own;obtain⟨g',cap,e,_⟩:=RowB.of h1 hj;exact⟨g',cap,e⟩
theorem BldD.turn (h:BldD w u s n j em R Ns u5 vr L fi la G)(ho:On (w.heap.size+1) u u'):Bse w u' n j R Ns u5 vr/\BlkIs u' s 37 (cellsS L).toArray/\BlkIs u' (s+1) 4 (bl n la)/\MatAt u' (s+3) (fun k=>s+4+k) n G:=by
 have h3:=h.s3;exact⟨h.bse.off ho.off fun k e=>by subst e;exact⟨by omega,_,_,h.b1,by decide,by decide,by decide⟩,ho.blk (by omega) h.sets,ho.blk (by omega) h.ends,h.mat.on ho (by omega) fun i _=>by omega⟩
theorem BldM.done {wx:World}(h:BldM wx u s n n)(hs:w.heap.size+3<=s)(hb:Bse w wx n j R Ns u5 vr)(h1:BlkIs wx (w.heap.size+1) 42 #[.slice (some ⟨s,0,none⟩) n n,vr,.slice none 0 0,.slice none 0 0,.slice (some ⟨s+1,0,none⟩) n n,.int .i64 em])
 (h2:BlkIs wx s 37 (cellsS (List.replicate n no8)).toArray)(h3:BlkIs wx (s+1) 4 (bl n fun _=>false))(h4:BlkIs wx (s+2) 4 (bl n fun _=>false))(h5:BlkIs wx (s+3) 28 (mixC (fun k=>s+4+k) n 0)):
 BldD w u s n j em R Ns u5 vr (List.replicate n no8) (fun _=>false) (fun _=>false) fun _ _=>false:=
 ⟨hb.off h.on.off fun k e=>by subst e;exact⟨by omega,_,_,h5,by decide,by decide,by decide⟩,h.on.blk (by omega) h1,hs,by simp,h.on.blk (by omega) h2,h.on.blk (by omega) h3,h.on.blk (by omega) h4,h.mat⟩
end
theorem xzcv {W:World}{g n:Nat}{f:Nat->Bool}(h:BlkIs W g 4 (bl n f))(hn:n<=1048576):BoolsV W ((List.range n).map f) (.slice (some ⟨g,0,none⟩) n n):=by
 refine⟨_,n,by simp,by simp;omega,fun _=>⟨g,0,rfl,h.lt,fun i hi=>?_⟩⟩;simp only [List.length_map,List.length_range]at hi;rw [Nat.zero_add];have:=xzao h hi
 simpa using this
theorem xznb {W:World}{g n:Nat}{L:List (Nat->Bool)}(h:BlkIs W g 37 (cellsS L).toArray)(hl:L.length=n)(hn:n<=1048576):SetsV W L (.slice (some ⟨g,0,none⟩) n n):=by
 subst hl;refine xzhg ⟨?_,.inr ⟨g,L.length,(cellsS L).toArray,rfl,Nat.zero_le _,h,Nat.le_refl _,by unfold maxLen;omega,xzew L,?_⟩⟩
 ·rw [xzcl]
 ·rw [List.take_of_length_le]
  show(cellsS L).length<=_
  rw [xzcl];exact Nat.le_refl _
theorem xznc {W:World}{B n:Nat}{f:Nat->List Int}{v:Value}{xs:List Value}(h1:W.ownsRow B 26 1 v n xs)(h2:RwL W B n f xs):RowsI W ((List.range n).map f) v:=by
 rcases h1.2 with⟨rfl,e⟩|⟨g,cap,cur,rfl,hb,hg,hnc,hcm,hcs,htake⟩
 ·subst e
  exact⟨none,0,rfl,⟨Nat.le_refl _,by decide⟩,fun h=>absurd rfl h⟩
 ·refine⟨_,cap,by simp,by simp;unfold maxLen at hcm;omega,fun _=>⟨g,0,rfl,(Array.getElem?_eq_some_iff.1 hg).1,fun i hi=>?_⟩⟩
  simp only [List.length_map,List.length_range]at hi;obtain⟨u,h3,h4⟩:=h2.2 i hi;refine⟨u,?_,by simpa using h4.ints⟩;have:=h1.cells (g:=g) rfl i u h3
  rwa [Addr.add_lit]at this
theorem xzvj (rb:Nat->Nat){n i k:Nat}(h:i<=k)(hk:k<n):(mixC rb n i)[k]? =some (.slice none 0 0):=by
 unfold mixC
 simp [hk,Nat.not_lt.2 h]
def TurnF (vfo:Value)(u u':World):Prop:=Off (fun q=>vfo.ownBlock=some q) u u'/\∀ k,vfo.ownBlock=some k->∃ cs,BlkIs u k 26 cs
theorem RowI.turnF {B:Nat}{u u':World}{v vfo:Value}{l:List Int}(h:RowI B u v l)(ht:TurnF vfo u u'):RowI B u' v l:=by
 have hr:=h;unfold RowI at hr
 refine xzaq hr fun k hk=>ht.1.block k (World.ownsRow.lt hr k hk).2 fun e=>?_
 obtain⟨cs,hb⟩:=ht.2 k e;exact xzem hr hb (by decide) hk.symm
theorem BldF.append {w wy u:World}{s n i g c:Nat}{em:Int}{vr vF vfo x:Value}{f:Nat->List Int}(h:BldF w wy u s n i em vr vF vfo f)(hb:BlkIs u g 26 #[x])(hx:RowI wy.heap.size u x (f i))(hi:i+1<=1073741824):
 ∃ A' c' U,(Builtin.append_ #[27,27] 27 #[vfo,.slice (some ⟨g,0,none⟩) 1 c]).run Try.prog u=.ok (.slice A' (i+1) c') U/\
  BldF w wy U s n i em vr vF vfo f/\TurnF vfo u U/\∃ ys,U.ownsRow wy.heap.size 26 1 (.slice A' (i+1) c') (i+1) ys/\RwL U wy.heap.size (i+1) f ys:=by
 obtain⟨xs,g1,g2⟩:=h.own
 have hnew:u.cell? ⟨g,0,none⟩=some x:=by simpa using hb.cell 0
 have hsz:wy.heap.size<=u.heap.size:=h.on.size
 have hx1:x.oneCell'=true:=by
  obtain⟨A,c,rfl,_⟩:=xzak (show u.ownsRow _ _ _ _ _ _ from hx)
  rfl
 obtain⟨i0,hi0,hz0,hz1,hz2⟩:=info_parts xzfk
 have hnw:∀ j v,[x][j]? =some v->u.cell? ((⟨g,0,none⟩:Addr).add j)=some v:=fun j v hu=>by
  cases j with
  |zero=>
   simp only [List.getElem?_cons_zero,zh]at hu;subst hu;rw [Addr.add_lit];exact hnew
  |succ j=>simp at hu
 have hone:∀ v∈[x],v.oneCell'=true:=fun v hu=>by rw [List.mem_singleton.1 hu];exact hx1
 obtain⟨v',U,hr,h3,hg⟩:=xzqh (c:=c) g1 hnew hx1 hi hsz;have hkeep:=xzby (P:=Try.prog) Try.underlying27 hi0 hz0 hz1 hz2 g1 (by rfl) hnw hone (by unfold maxLen;omega) (by omega) hr;obtain⟨A',c',rfl,_⟩:=xzak h3
 have hlow:∀ k,vfo.ownBlock=some k->wy.heap.size<=k:=fun k hk=>(World.ownsRow.lt g1 k hk).1
 have hlo:=h.lo
 have ht:TurnF vfo u U:=⟨⟨hg.os,hg.tape,hg.output,hg.size,fun q hq hn=>hg.block q hq fun e=>hn e.symm⟩,fun k hk=>by
  rcases g1.2 with⟨e,_⟩|⟨g',cap,cur,e,_,hb',_⟩
  ·rw [e]at hk;simp [Value.ownBlock]at hk
  ·rw [e]at hk
   simp [Value.ownBlock]at hk
   subst hk
   exact⟨cur,hb'⟩⟩
 have hrw:∀ k cs,wy.heap.size<=k->BlkIs u k 3 cs->U.heap[k]? =u.heap[k]? :=fun k cs _ hk=>hg.block k hk.lt (xzem g1 hk (by decide))
 exact⟨A',c',U,hr,⟨h.on.grown hg hlow (Nat.le_refl _),h.b1.grown hg (fun e=>by have:=hlow _ e.symm;omega),hlo,xs,hkeep,g2.kept hrw⟩,ht,xs++[x],h3,(g2.snoc hx).kept hrw⟩
theorem BldF.stored {w wy u:World}{s n i:Nat}{em:Int}{vr vF vfo v':Value}{f:Nat->List Int}{ys:List Value}(h:BldF w wy u s n i em vr vF vfo f)(h3:u.ownsRow wy.heap.size 26 1 v' (i+1) ys)(h4:RwL u wy.heap.size (i+1) f ys):
 BldF w wy (u.setCell ⟨w.heap.size+1,3,none⟩ v') s n (i+1) em vr vF v' f:=by
 have hlo:=h.lo;refine⟨h.on.trans (On.put _),?_,hlo,ys,xzaq h3 fun k hk=>?_,h4.kept fun k cs hk hb=>?_⟩
 ·have:=h.b1.put 3 v'
  simpa using this
 ·exact Below.heap_setCell _ _ _ _ (by have:=(World.ownsRow.lt h3 k hk).1;show k≠w.heap.size+1;omega)
 ·exact Below.heap_setCell _ _ _ _ (by show k≠w.heap.size+1;omega)
theorem xzhw:(Try.prog.info? 42).map (·.size)=some 6:=by kernel_rfl
theorem xzqi {w:World}{g:Nat}{t:TypeId}{a b c d e f:Value}(h:BlkIs w g t #[a,b,c,d,e,f]):(loadVar 42 ⟨g,0,none⟩).run Try.prog w=.ok (.agg #[a,b,c,d,e,f]) w:=
 run_loadVar_mid (P:=Try.prog) w g 0 42 [a,b,c,d,e,f] _ h.range Try.underlying42 rfl xzhw
end
end Go.Proofs.Ythoaaginadjaoaa
