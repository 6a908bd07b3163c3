/-
 THE MAKER OF SUBSETS AND ALL THAT IT HOLDS, in one; what abides where one part is written. No condition.
-/
import Derived.Test.YtdjpphjpnkfeiaaGreatDoorQG06
import Derived.Test.YtdjpphjpnkfeiaaGreatDoorQG02
namespace Go.Proofs.YtdjpphjpnkfeiaaGreatDoor
section
open Go.RowKit
structure SP where
 B:Nat
 W0:World
 N:Nf
 of:Nat->Nat
 C:Nat
 g:Nat
 M:Nat
structure SD where
 L:List (List Int)
 K:List (List Int)
 nxt:List (List Int)
 T:List Int
 fol:List (Nat->Bool)
 tak:List (Nat->Bool)
def keyS (s:ByteArray):Lit:=.string s.data.toList
def textK (x:List Int):ByteArray:=textR (setOf x)
def NumIs (W:World)(M:Nat)(K:List (List Int)):Prop:=
 ∃ D:DataW Unit,W.ownsMap Tryz.prog 9 (plainElem Tryz.prog 3) M K.length D/\
  (∀ s:ByteArray,Maps.has D (keyS s)=(List.range K.length).any fun i=>decide (1<=i)&&decide (textK (K.getD i [])=s))/\
  (∀ i,1<=i->i<K.length->D.atKey (keyS (textK (K.getD i []))) (.lit (.int .i64 0))=.lit (.int .i64 (i:Nat)))
theorem NumIs.heap {W W':World}{M:Nat}{K:List (List Int)}(h:NumIs W M K)(e:W'.heap[M]? =W.heap[M]?):NumIs W' M K:=by
 obtain⟨D,h1,h2⟩:=h;refine⟨D,?_,h2⟩;unfold World.ownsMap at h1 ⊢;obtain⟨es,clock,hb,h3⟩:=h1;exact⟨es,clock,e.trans hb,h3⟩
theorem NumIs.lt {W:World}{M:Nat}{K:List (List Int)}(h:NumIs W M K):M<W.heap.size:=by
 obtain⟨D,h1,_⟩:=h;exact h1.lt
def intF (l:List Int)(c:Nat):Value:=.int .i64 (l.getD c 0)
def hdrs (bs:Nat->Nat)(C n:Nat):List Value:=(List.range n).map fun i=>.slice (some ⟨bs i,0,none⟩) C C
structure SMx (r:Nat->Prop)(p:SP)(ρ:Nat->Nat)(D:SD)(V:MkV)(bs:Nat->Nat)(W:World):Prop where
 below:Below p.B p.W0 W
 low:p.W0.heap.size=p.B/\p.B<=p.g/\p.B<=p.M
 vals:V.of=p.of/\V.n=p.C/\V.em=p.N.empty/\V.nums=.map (some p.M)
 nfa:NfaAt p.W0 p.N (.agg #[V.v0,V.v1,V.v2,V.v3,V.v4,.int .i64 p.N.empty])
 blk: ¬ r 1->BlkF W p.g 129 301 (mkF V)
 mp: ¬ r 2->NumIs W p.M D.K
 fo: ¬ r 3->RowsP p.B W V.fol D.fol
 ta: ¬ r 4->RowsP p.B W V.tak D.tak
 st: ¬ r 5->RowsP p.B W V.sts (D.L.map setOf)
 nx: ¬ r 6->W.ownsRow p.B 26 1 V.next D.nxt.length (hdrs bs p.C D.nxt.length)
 tg: ¬ r 7->RowI p.B W V.tag D.T
 rw:∀ (i:Nat) (h:i<D.nxt.length),¬ r (8+i)->BlkF W (bs i) 3 p.C (intF D.nxt[i])
 rlow:∀ i,i<D.nxt.length->p.B<=bs i
 ro:ρ p.g=1/\ρ p.M=2/\(∀ k,V.fol.ownBlock=some k->ρ k=3)/\(∀ k,V.tak.ownBlock=some k->ρ k=4)/\(∀ k,V.sts.ownBlock=some k->ρ k=5)/\(∀ k,V.next.ownBlock=some k->ρ k=6)/\(∀ k,V.tag.ownBlock=some k->ρ k=7)
 rr:∀ i,i<D.nxt.length->ρ (bs i)=8+i
abbrev SM:=SMx fun _=>False
section
variable {r : Nat → Prop} {p : SP} {ρ : Nat → Nat} {D : SD} {V : MkV} {bs : Nat → Nat} {W W' : World}
theorem SMx.tn (h:SMx r p ρ D V bs W){r':Nat->Prop}{o:Option Nat}(hrr:∀ q,r q->r' q)(ht:Tn o W W')(ho:∀ k,o=some k->p.B<=k/\(r' (ρ k)\/W.heap.size<=k)):SMx r' p ρ D V bs W':=by
 have hB:p.B<=W.heap.size:=by have:=h.low;have:=h.below.size;omega
 have key:∀ k q,k<W.heap.size->ρ k=q-> ¬ r' q->W'.heap[k]? =W.heap[k]? :=fun k q hk hq hr=>ht.2.1 k hk (fun e=>by
  rcases(ho k e).2 with h1|h1
  ·rw [hq]at h1;exact hr h1
  ·omega)
 have up:∀ q,¬ r' q-> ¬ r q:=fun q h1 h2=>h1 (hrr q h2)
 refine⟨ht.2.2 _ _ hB (fun k hk=>(ho k hk).1) h.below,h.low,h.vals,h.nfa,fun hr=>?_,fun hr=>?_,fun hr=>?_,fun hr=>?_,fun hr=>?_,fun hr=>?_,fun hr=>?_,fun i hi hr=>?_,h.rlow,h.ro,h.rr⟩
 ·exact(key _ _ (BlkIs.lt (h.blk (up _ hr))) h.ro.1 hr).trans (h.blk (up _ hr))
 ·exact(h.mp (up _ hr)).heap (key _ _ (h.mp (up _ hr)).lt h.ro.2.1 hr)
 ·exact(h.fo (up _ hr)).heap fun k hk=>key k _ (World.ownsRow.lt (h.fo (up _ hr)) k hk).2 (h.ro.2.2.1 k hk) hr
 ·exact(h.ta (up _ hr)).heap fun k hk=>key k _ (World.ownsRow.lt (h.ta (up _ hr)) k hk).2 (h.ro.2.2.2.1 k hk) hr
 ·exact(h.st (up _ hr)).heap fun k hk=>key k _ (World.ownsRow.lt (h.st (up _ hr)) k hk).2 (h.ro.2.2.2.2.1 k hk) hr
 ·exact xzau (h.nx (up _ hr)) fun k hk=>key k _ (World.ownsRow.lt (h.nx (up _ hr)) k hk).2 (h.ro.2.2.2.2.2.1 k hk) hr
 ·exact xzbd (h.tg (up _ hr)) fun k hk=>key k _ (World.ownsRow.lt (h.tg (up _ hr)) k hk).2 (h.ro.2.2.2.2.2.2 k hk) hr
 ·exact(key _ _ (BlkIs.lt (h.rw i hi (up _ hr))) (h.rr i hi) hr).trans (h.rw i hi (up _ hr))
theorem SMx.step (h:SMx r p ρ D V bs W)(hb:Below W.heap.size W W'):SMx r p ρ D V bs W':=SMx.tn (o:=none) h (fun _ h=>h) (Tn.below hb) (fun k e=>by cases e)
theorem SMx.size (h:SMx r p ρ D V bs W):p.B<=W.heap.size:=by have:=h.low;have:=h.below.size;omega
theorem SMx.cells (h:SM p ρ D V bs W):W.cell? ⟨p.g,256,none⟩=some (.int .i64 (p.C:Nat))/\W.cell? ⟨p.g,257,none⟩=some V.next/\W.cell? ⟨p.g,258,none⟩=some V.tag/\
 W.cell? ⟨p.g,259,none⟩=some V.v0/\W.cell? ⟨p.g,260,none⟩=some V.v1/\W.cell? ⟨p.g,261,none⟩=some V.v2/\W.cell? ⟨p.g,262,none⟩=some V.v3/\W.cell? ⟨p.g,263,none⟩=some V.v4/\W.cell? ⟨p.g,264,none⟩=some (.int .i64 p.N.empty)/\
 W.cell? ⟨p.g,265,none⟩=some V.fol/\W.cell? ⟨p.g,266,none⟩=some V.tak/\W.cell? ⟨p.g,267,none⟩=some V.sts/\W.cell? ⟨p.g,268,none⟩=some (.map (some p.M)):=by
 have h1:=xzaq (h.blk (fun h=>h));obtain⟨_,e1,e2,e3⟩:=h.vals;rw [e1,e2,e3]at h1;exact h1
theorem SMx.role (h:SM p ρ D V bs W)(o:Option Nat)(q:Nat)(ho:∀ k,o=some k->ρ k=q\/W.heap.size<=k):SM p (fun k=>if o=some k then q else ρ k) D V bs W:=by
 have key:∀ k q',k<W.heap.size->ρ k=q'->(if o=some k then q else ρ k)=q':=fun k q' hk hq=>by
  by_cases e:o=some k
  ·rw [if_pos e]
   rcases ho k e with h1|h1
   ·exact h1.symm.trans hq
   ·omega
  ·rw [if_neg e];exact hq
 have F: ¬ False:=fun h=>h
 exact⟨h.below,h.low,h.vals,h.nfa,h.blk,h.mp,h.fo,h.ta,h.st,h.nx,h.tg,h.rw,h.rlow,
  ⟨key _ _ (BlkIs.lt (h.blk F)) h.ro.1,key _ _ (h.mp F).lt h.ro.2.1,fun k hk=>key _ _ (World.ownsRow.lt (h.fo F) k hk).2 (h.ro.2.2.1 k hk),fun k hk=>key _ _ (World.ownsRow.lt (h.ta F) k hk).2 (h.ro.2.2.2.1 k hk),fun k hk=>key _ _ (World.ownsRow.lt (h.st F) k hk).2 (h.ro.2.2.2.2.1 k hk),fun k hk=>key _ _ (World.ownsRow.lt (h.nx F) k hk).2 (h.ro.2.2.2.2.2.1 k hk),fun k hk=>key _ _ (World.ownsRow.lt (h.tg F) k hk).2 (h.ro.2.2.2.2.2.2 k hk)⟩,
  fun i hi=>key _ _ (BlkIs.lt (h.rw i hi F)) (h.rr i hi)⟩
theorem SMx.newSts (h:SMx (fun k=>k=5\/k=1) p ρ D V bs W){v':Value}{x:List Int}(hblk:BlkF W p.g 129 301 (mkF {V with sts:=v'}))(hown:RowsP p.B W v' ((D.L++[x]).map setOf))(hro:∀ k,v'.ownBlock=some k->ρ k=5):
 SM p ρ {D with L:=D.L++[x]} {V with sts:=v'} bs W:=
 ⟨h.below,h.low,h.vals,h.nfa,fun _=>hblk,fun _=>h.mp (by decide),fun _=>h.fo (by decide),fun _=>h.ta (by decide),fun _=>hown,fun _=>h.nx (by decide),fun _=>h.tg (by decide),fun i hi _=>h.rw i hi (by omega),h.rlow,⟨h.ro.1,h.ro.2.1,h.ro.2.2.1,h.ro.2.2.2.1,hro,h.ro.2.2.2.2.2.1,h.ro.2.2.2.2.2.2⟩,h.rr⟩
theorem SMx.newTag (h:SMx (fun k=>k=7\/k=1) p ρ D V bs W){v':Value}{t:Int}(hblk:BlkF W p.g 129 301 (mkF {V with tag:=v'}))(hown:RowI p.B W v' (D.T++[t]))(hro:∀ k,v'.ownBlock=some k->ρ k=7):
 SM p ρ {D with T:=D.T++[t]} {V with tag:=v'} bs W:=
 ⟨h.below,h.low,h.vals,h.nfa,fun _=>hblk,fun _=>h.mp (by decide),fun _=>h.fo (by decide),fun _=>h.ta (by decide),fun _=>h.st (by decide),fun _=>h.nx (by decide),fun _=>hown,fun i hi _=>h.rw i hi (by omega),h.rlow,⟨h.ro.1,h.ro.2.1,h.ro.2.2.1,h.ro.2.2.2.1,h.ro.2.2.2.2.1,h.ro.2.2.2.2.2.1,hro⟩,h.rr⟩
theorem SMx.newFol (h:SMx (fun k=>k=3\/k=1) p ρ D V bs W){v':Value}{f:Nat->Bool}(hblk:BlkF W p.g 129 301 (mkF {V with fol:=v'}))(hown:RowsP p.B W v' (D.fol++[f]))(hro:∀ k,v'.ownBlock=some k->ρ k=3):
 SM p ρ {D with fol:=D.fol++[f]} {V with fol:=v'} bs W:=
 ⟨h.below,h.low,h.vals,h.nfa,fun _=>hblk,fun _=>h.mp (by decide),fun _=>hown,fun _=>h.ta (by decide),fun _=>h.st (by decide),fun _=>h.nx (by decide),fun _=>h.tg (by decide),fun i hi _=>h.rw i hi (by omega),h.rlow,⟨h.ro.1,h.ro.2.1,hro,h.ro.2.2.2.1,h.ro.2.2.2.2.1,h.ro.2.2.2.2.2.1,h.ro.2.2.2.2.2.2⟩,h.rr⟩
theorem SMx.newTak (h:SMx (fun k=>k=4\/k=1) p ρ D V bs W){v':Value}{f:Nat->Bool}(hblk:BlkF W p.g 129 301 (mkF {V with tak:=v'}))(hown:RowsP p.B W v' (D.tak++[f]))(hro:∀ k,v'.ownBlock=some k->ρ k=4):
 SM p ρ {D with tak:=D.tak++[f]} {V with tak:=v'} bs W:=
 ⟨h.below,h.low,h.vals,h.nfa,fun _=>hblk,fun _=>h.mp (by decide),fun _=>h.fo (by decide),fun _=>hown,fun _=>h.st (by decide),fun _=>h.nx (by decide),fun _=>h.tg (by decide),fun i hi _=>h.rw i hi (by omega),h.rlow,⟨h.ro.1,h.ro.2.1,h.ro.2.2.1,hro,h.ro.2.2.2.2.1,h.ro.2.2.2.2.2.1,h.ro.2.2.2.2.2.2⟩,h.rr⟩
theorem xzyy (bs:Nat->Nat)(C n b:Nat):hdrs (fun i=>if i=n then b else bs i) C (n+1)=hdrs bs C n++[.slice (some ⟨b,0,none⟩) C C]:=by
 unfold hdrs;rw [List.range_succ,List.map_append]
 congr 1
 ·apply List.map_congr_left
  intro i hi
  have e: ¬ i=n:=by have:=List.mem_range.1 hi;omega
  simp only [if_neg e]
 ·simp
theorem SMx.newNxt (h:SMx (fun k=>k=6\/k=1) p ρ D V bs W){v':Value}{l:List Int}{b:Nat}(hblk:BlkF W p.g 129 301 (mkF {V with next:=v'}))(hown:W.ownsRow p.B 26 1 v' (D.nxt.length+1) (hdrs bs p.C D.nxt.length++[.slice (some ⟨b,0,none⟩) p.C p.C]))(hro:∀ k,v'.ownBlock=some k->ρ k=6)
 (hb:BlkF W b 3 p.C (intF l))(hbl:p.B<=b)(hbr:ρ b=8+D.nxt.length):
 SM p ρ {D with nxt:=D.nxt++[l]} {V with next:=v'} (fun i=>if i=D.nxt.length then b else bs i) W:=by
 have hl:(D.nxt++[l]).length=D.nxt.length+1:=by simp
 refine⟨h.below,h.low,h.vals,h.nfa,fun _=>hblk,fun _=>h.mp (by decide),fun _=>h.fo (by decide),fun _=>h.ta (by decide),fun _=>h.st (by decide),fun _=>?_,fun _=>h.tg (by decide),fun i hi _=>?_,fun i hi=>?_,⟨h.ro.1,h.ro.2.1,h.ro.2.2.1,h.ro.2.2.2.1,h.ro.2.2.2.2.1,hro,h.ro.2.2.2.2.2.2⟩,fun i hi=>?_⟩
 ·show W.ownsRow p.B 26 1 v' (D.nxt++[l]).length (hdrs _ p.C (D.nxt++[l]).length)
  rw [hl,xzyy];exact hown
 ·show BlkF W (if i=D.nxt.length then b else bs i) 3 p.C (intF (D.nxt++[l])[i])
  by_cases e:i=D.nxt.length
  ·subst e;rw [if_pos rfl,List.getElem_concat_length rfl];exact hb
  ·rw [if_neg e]
   have:i<D.nxt.length:=by have:=hi;simp at this;omega
   rw [List.getElem_append_left this];exact h.rw i this (by omega)
 ·by_cases e:i=D.nxt.length
  ·simp only [if_pos e];exact hbl
  ·simp only [if_neg e];exact h.rlow i (by have:=hi;simp at this;omega)
 ·by_cases e:i=D.nxt.length
  ·simp only [if_pos e];rw [hbr,e]
  ·simp only [if_neg e];exact h.rr i (by have:=hi;simp at this;omega)
theorem SMx.newReach (h:SMx (fun k=>k=1) p ρ D V bs W){f:Nat->Bool}(hblk:BlkF W p.g 129 301 (mkF {V with reach:=f})):SM p ρ D {V with reach:=f} bs W:=
 ⟨h.below,h.low,h.vals,h.nfa,fun _=>hblk,fun _=>h.mp (by decide),fun _=>h.fo (by decide),fun _=>h.ta (by decide),fun _=>h.st (by decide),fun _=>h.nx (by decide),fun _=>h.tg (by decide),fun i hi _=>h.rw i hi (by omega),h.rlow,h.ro,h.rr⟩
theorem SMx.newMap (h:SMx (fun k=>k=2) p ρ D V bs W){K:List (List Int)}(hm:NumIs W p.M K):SM p ρ {D with K:=K} V bs W:=
 ⟨h.below,h.low,h.vals,h.nfa,fun _=>h.blk (by decide),fun _=>hm,fun _=>h.fo (by decide),fun _=>h.ta (by decide),fun _=>h.st (by decide),fun _=>h.nx (by decide),fun _=>h.tg (by decide),fun i hi _=>h.rw i hi (by omega),h.rlow,h.ro,h.rr⟩
theorem SMx.newRow {n:Nat}(h:SMx (fun k=>k=8+n) p ρ D V bs W)(hn:n<D.nxt.length){l:List Int}(hb:BlkF W (bs n) 3 p.C (intF l)):SM p ρ {D with nxt:=D.nxt.set n l} V bs W:=by
 have hl:(D.nxt.set n l).length=D.nxt.length:=List.length_set;refine⟨h.below,h.low,h.vals,h.nfa,fun _=>h.blk (by omega),fun _=>h.mp (by omega),fun _=>h.fo (by omega),fun _=>h.ta (by omega),fun _=>h.st (by omega),fun _=>?_,fun _=>h.tg (by omega),fun i hi _=>?_,fun i hi=>h.rlow i (by rwa [hl]at hi),h.ro,fun i hi=>h.rr i (by rwa [hl]at hi)⟩
 ·show W.ownsRow p.B 26 1 V.next (D.nxt.set n l).length (hdrs bs p.C (D.nxt.set n l).length)
  rw [hl];exact h.nx (by omega)
 ·by_cases e:i=n
  ·subst e
   show BlkF W (bs i) 3 p.C (intF (D.nxt.set i l)[i])
   rw [List.getElem_set_self];exact hb
  ·have hi':i<D.nxt.length:=by rwa [hl]at hi
   show BlkF W (bs i) 3 p.C (intF (D.nxt.set n l)[i])
   rw [List.getElem_set_ne (Ne.symm e)];exact h.rw i hi' (by omega)
theorem SMx.tn2 (h:SM p ρ D V bs W){q:Nat}(hq:q≠1){o:Option Nat}(ht:Tn o W W')(ho:∀ k,o=some k->p.B<=k/\(ρ k=q\/W.heap.size<=k))(i:Nat)(v:Value):
 SMx (fun k=>k=q\/k=1) p ρ D V bs (W'.setCell ⟨p.g,i,none⟩ v)/\BlkF (W'.setCell ⟨p.g,i,none⟩ v) p.g 129 301 (putV (mkF V) i v):=by
 have h1:SMx (fun k=>k=q) p ρ D V bs W':=h.tn (fun _ h=>h.elim) ht ho;refine⟨h1.tn (o:=some p.g) (fun _ h=>.inl h) (Tn.wrote (Wrote.cell _ _ _ _)) (fun k e=>?_),(h1.blk (fun e=>hq e.symm)).put _ _⟩;obtain rfl:p.g=k:=Option.some.inj e;exact⟨h.low.2.1,.inl (.inr h.ro.1)⟩
theorem SMx.keep0 (h:SM p ρ D V bs W){q:Nat}(hq:q≠0){o:Option Nat}(ht:Tn o W W')(ho:∀ k,o=some k->p.B<=k/\(ρ k=q\/W.heap.size<=k))(i:Nat)(v:Value)(k:Nat)(hk:k<W.heap.size)(h0:ρ k=0):(W'.setCell ⟨p.g,i,none⟩ v).heap[k]? =W.heap[k]? :=by
 have hg:k≠p.g:=fun e=>by rw [e,h.ro.1]at h0;cases h0
 refine(Below.heap_setCell W' ⟨p.g,i,none⟩ v k hg).trans (ht.2.1 k hk fun e=>?_)
 rcases(ho k e).2 with h1|h1
 ·exact hq (h1.symm.trans h0)
 ·omega
theorem xzjc (h:SM p ρ D V bs W){q:Nat}(hq:q≠1){v:Value}(hv:∀ k,v.ownBlock=some k->ρ k=q)(i:Nat)(x:Value)(k:Nat)(hk:v.ownBlock=some k):(W'.setCell ⟨p.g,i,none⟩ x).heap[k]? =W'.heap[k]? :=
 Below.heap_setCell W' ⟨p.g,i,none⟩ x k (fun e=>by
  have h1:=hv k hk;rw [show k=p.g from e,h.ro.1]at h1
  exact hq h1.symm)
end
end
section
open Go.RowKit
section grow
variable {P : Program} {ops : Array Oper} {C : World → Prop}
def textFrame (ops:Array Oper)(vs:Nat->Value)(a0:Act):Nat->Act
 |0=>a0
 |i+1=>(textFrame ops vs a0 i).put ((ops[i]?).bind (·.dst)) (vs i)
theorem xzci {h N:Nat}{a0:Act}(hD:distinctB ops h N=true)(hN:a0.tmps.size=N)(hh:h<=ops.size)(vs:Nat->Value):∀ k,k<=h->Came ops (fun j=>decide (j<k)) vs a0 (textFrame ops vs a0 k)
 |0,_=>⟨rfl,rfl,fun i o t _ hi=>by simp at hi,fun _ _=>rfl⟩
 |k+1,hk=>by
  have ih:=xzci hD hN hh vs k (by omega);obtain⟨o,ho⟩:∃ o,ops[k]? =some o:=⟨_,Array.getElem?_eq_getElem (by omega)⟩
  have:=ih.put (L':=fun j=>decide (j<k+1)) (v':=vs) hD hN (fun i hi=>by have:=of_decide_eq_true hi;omega) (show k<h by omega) ho (by simp) (vs k)
   (fun j=>by rw [Bool.eq_iff_iff];simp;omega) (fun _ _=>rfl) rfl
  show Came ops _ vs a0 ((textFrame ops vs a0 k).put ((ops[k]?).bind (·.dst)) (vs k))
  rw [ho];exact this
variable {h N : Nat} {V : Nat → Value → World → Prop} {a0 : Act} {w0 : World}
end grow
end
section
open Go.RowKit
section acts
variable {P : Program} {ops : Array Oper} {C : World → Prop}
def actUpon (P:Program)(w:World)(R:World->World->Prop)(V:Value->World->Prop):Result Next->Prop
 | .ok (.value v) w'=>R w w'/\V v w'
 | .ok (.enter f args) w'=>w'=w/\Calls P f args w (fun e w''=>∃ v,e=.returned v/\R w w''/\V v w'')
 |_=>False
theorem xzab {w w':World}{R:World->World->Prop}{V:Value->World->Prop}{x:Value}(hr:R w w')(h:V x w'):actUpon P w R V (.ok (.value x) w'):=⟨hr,h⟩
theorem xzak {w:World}{R:World->World->Prop}{V:Value->World->Prop}{f:FuncId}{args:Array Value}(h:Calls P f args w (fun e w''=>∃ v,e=.returned v/\R w w''/\V v w'')):actUpon P w R V (.ok (.enter f args) w):=⟨rfl,h⟩
def StandsA (ops:Array Oper)(C:World->Prop)(h:Nat)(V:Nat->Value->World->Prop)(a0:Act)(listed:Array Bool)(a:Act)(u:World):Prop:=
 HeadInv .any ops h listed/\∃ vs:Nat->Value,Came ops (fun i=>listed.getD i false) vs a0 a/\C u/\(∀ i,i<h->listed.getD i false=true->V i (vs i) u)
def StepA (P:Program)(ops:Array Oper)(C:World->Prop)(R:Nat->World->World->Prop)(V:Nat->Value->World->Prop)(a0:Act)(i:Nat):Prop:=
 ∀ (vs:Nat->Value) (u:World),C u->(∀ j,j<i->Region.waitsFor .any ops i j=true->V j (vs j) u)->∀ o,ops[i]? =some o->o.guard=none/\actUpon P u (R i) (V i) ((execOp (textFrame ops vs a0 i).eval o).run P u)
variable {h N : Nat} {R : Nat → World → World → Prop} {V : Nat → Value → World → Prop} {a0 : Act}
theorem xzud (hsel:Region.noSelect ops=true)(hh:h<=ops.size)(hD:distinctB ops h N=true)(hK:looksB ops h h=true)(hN:a0.tmps.size=N)
 (hCs:∀ i u u',i<h->C u->R i u u'->C u')(hVs:∀ i j v u u',i<h->j<h->i≠j->V i v u->R j u u'->V i v u'){Q:Exit->Act->World->Prop}{listed:Array Bool}{a:Act}{u:World}(hst:StandsA ops C h V a0 listed a u)
 {i:Nat} (hi:i<h) (hr:i∈Region.ready .any ops listed) (hv:StepA P ops C R V a0 i):
 wpOp P ops Q i (fun a' u'=>StandsA ops C h V a0 (listed.setIfInBounds i true) a' u') a u:=by
 obtain⟨inv,vs,hc,hC,hV⟩:=hst;have hcc:=xzci hD hN hh vs i (by omega);obtain⟨hun,o',ho',hall⟩:=mem_ready.1 hr;have hunf:=getD_both hun
 have hlt:=fun j hj=>xzdm inv j hj
 have hsz:a.tmps.size=(textFrame ops vs a0 i).tmps.size:=hc.2.1.trans hcc.2.1.symm
 have hwait:∀ j,j<i->Region.waitsFor .any ops i j=true->listed.getD j false=true:=fun j _ h3=>by
  obtain⟨oi,hoi,e,he,hbd,hon⟩:=Region.waitsFor_spec h3;obtain rfl:oi=o':=Option.some.inj (hoi.symm.trans ho');have hl:=hall e he hbd;rw [hon]at hl;exact hl
 have hlook:∀ t∈o'.looksAt ops,a.tmps.getD t undef=(textFrame ops vs a0 i).tmps.getD t undef:=fun t ht=>by
  by_cases hwr:∃ j oj,j<h/\ops[j]? =some oj/\oj.dst=some t/\j≠i
  ·obtain⟨j,oj,hj,hoj,hd,hne⟩:=hwr
   obtain⟨h1,h2,h3⟩:=xzcw hK hi ho' ht hj hoj hd hne;have hl:=hwait j h1 h3;rw [hc.2.2.1 j oj t hoj hl hd,hcc.2.2.1 j oj t hoj (by simpa using h1) hd]
  ·have hn1:∀ j oj,ops[j]? =some oj->listed.getD j false=true->oj.dst≠some t:=fun j oj hoj hl hd=>by
    by_cases e:j=i
    ·subst e;rw [hunf]at hl;cases hl
    ·exact hwr ⟨j,oj,hlt j hl,hoj,hd,e⟩
   have hn2:∀ j oj,ops[j]? =some oj->decide (j<i)=true->oj.dst≠some t:=fun j oj hoj hl hd=>
    hwr ⟨j,oj,by have:=of_decide_eq_true hl;omega,hoj,hd,by have:=of_decide_eq_true hl;omega⟩
   rw [hc.2.2.2 t hn1,hcc.2.2.2 t hn2]
 obtain⟨hex,hwa⟩:=xzeq (ops:=ops) (Region.noSelect_spec hsel i o' · · ho') hsz hlook
 have hset:∀ (x:Value) (u':World),R i u u'->V i x u'->StandsA ops C h V a0 (listed.setIfInBounds i true) (a.put o'.dst x) u':=fun x u' hbu hx=>by
  refine⟨inv.set hr (by omega),fun j=>if j=i then x else vs j,?_,hCs _ _ _ hi hC hbu,fun j h1 h3=>?_⟩
  ·refine hc.put hD hN (fun j hj=>hlt j hj) hi ho' hunf x (fun j=>?_) (fun j hj=>?_) (by simp)
   ·by_cases e:j=i
    ·subst e
     have:j<listed.size:=by rw [inv.size];omega
     simp [this]
    ·rw [getD_set_ne false (Ne.symm e)];simp [e]
   ·have hne:j≠i:=fun e=>by subst e;rw [hunf]at hj;cases hj
    simp [hne]
  ·by_cases e:j=i
   ·subst e;simpa using hx
   ·rw [getD_set_ne false (Ne.symm e)]at h3
    simp only [if_neg e];exact hVs j i _ _ _ h1 hi e (hV j h1 h3) hbu
 obtain⟨hg,hf⟩:=hv vs u hC (fun j hj hw=>hV j (by omega) (hwait j hj hw)) o' ho';unfold wpOp;simp only [ho']
 have hw:Region.wanted o' (yielded ops a.tmps)=true:=by unfold Region.wanted;rw [hg]
 rw [if_pos hw];refine .inl ?_;rw [<-hex]at hf;unfold Oper.wp;generalize(execOp a.eval o').run P u=r at hf
 cases r with
 |ok nx w'=>
  cases nx<;>simp only [actUpon]at hf<;>simp only [Oper.upon]
  case value x=>exact hset x w' hf.1 hf.2
  case enter f args=>
   obtain⟨rfl,hcall⟩:=hf
   exact hcall.mono fun e w'' ⟨v,he,hbw,hvw⟩=>by subst he;exact hset v w'' hbw hvw
 |halt x w'=>simp only [actUpon]at hf
theorem yzdw {Q:Exit->Act->World->Prop}(hB:freeB ops h h N=true)(hN:a0.tmps.size=N)(hCs:∀ i u u',i<h->C u->R i u u'->C u')(hVs:∀ i j v u u',i<h->j<h->i≠j->V i v u->R j u u'->V i v u')
 (hS:∀ i,i<h->StepA P ops C R V a0 i)
 (hend:∀ a u,StandsA ops C h V a0 (headArr ops.size h) a u->wpList P ops Q (ops.toList.drop h) a u):
 ∀ (d:Nat) (listed:Array Bool) (a:Act) (u:World),toCome listed h=d->StandsA ops C h V a0 listed a u->wpAny P .any ops Q (d+(ops.size - h)) listed a u:=by
 simp only [freeB,Bool.and_eq_true,Bool.or_eq_true,decide_eq_true_eq]at hB;obtain⟨⟨⟨⟨⟨⟨⟨hsel,hnh⟩,hh⟩,hD⟩,hK⟩,hA⟩,hT⟩,hSq⟩:=hB;intro d
 induction d with
 |zero=>
  intro listed a u hd hst;have hl:=xzcz hst.1 (xzcx hd);subst hl;have:=wpAny_of_seq (md:=.any) (Q':=Q) (ops.toList.drop h) h (headArr ops.size h) a u (fun j=>by simp) (by simpa using hSq) (hend a u hst)
  simpa using this
 |succ d ih=>
  intro listed a u hd hst
  have hex:∃ i,i<h/\listed.getD i false=false:=by
   have hpos:0<((List.range h).filter fun i=> !listed.getD i false).length:=by unfold toCome at hd;omega
   obtain⟨i,hi⟩:=List.exists_mem_of_length_pos hpos;rw [List.mem_filter]at hi;exact⟨i,List.mem_range.1 hi.1,by simpa using hi.2⟩
  obtain⟨i0,hi0,hu0⟩:=hex;have hs:=hst.1.size;obtain⟨j0,hj0⟩:=xzcy hh hA hs i0 i0 (Nat.le_refl _) hi0 hu0;rw [show d+1+(ops.size - h)=(d+(ops.size - h))+1 by omega];refine⟨fun he=>(by rw [he]at hj0;cases hj0),fun i hi=>?_⟩
  have hil:i<ops.size:=by
   obtain⟨_,o,ho,_⟩:=mem_ready.1 hi;exact(Array.getElem?_eq_some_iff.1 ho).1
  have hih:i<h:=by
   rcases Nat.lt_or_ge i h with hlt|hge
   ·exact hlt
   ·rcases hT with hT|hT
    ·omega
    ·exact absurd hi (tail_waits hT.1 hT.2 (by omega) hst.1 (h - i0) i0 rfl hi0 (getD_in (by omega) hu0) i hge)
  have hun:=getD_both (mem_ready.1 hi).1;have hset:=xzdr hih (by omega) hun;exact wpOp_mono (fun a' u' hst'=>ih _ a' u' (by omega) hst') (xzud hsel hh hD hK hN hCs hVs hst hih hi (hS i hih))
theorem xzaf {id:Nat}{l:List Oper}{Q:Exit->Act->World->Prop}{a:Act}{w:World}(h N:Nat)(C:World->Prop)(R:Nat->World->World->Prop)(V:Nat->Value->World->Prop)
 (hm:P.follows .mixedOrders=true)(hB:freeB l.toArray h h N=true)(hN:a.tmps.size=N)(hC0:C w.drew)(hCs:∀ i u u',i<h->C u->R i u u'->C u')(hVs:∀ i j v u u',i<h->j<h->i≠j->V i v u->R j u u'->V i v u')
 (hS:∀ i,i<h->StepA P l.toArray C R V a i)
 (hE:∀ (vs:Nat->Value) (u:World),C u->(∀ i,i<h->V i (vs i) u)->wpList P l.toArray Q (l.drop h) (textFrame l.toArray vs a h) u):(Code.region id l.toArray true).wp P Q a w:=by
 have hB':=hB;simp only [freeB,Bool.and_eq_true,Bool.or_eq_true,decide_eq_true_eq]at hB';obtain⟨⟨⟨⟨⟨⟨⟨hsel,hnh⟩,hh⟩,hD⟩,hK⟩,hA⟩,hT⟩,hSq⟩:=hB';refine wp_region_any hm ?_
 have inv0:HeadInv .any l.toArray h (Array.replicate l.toArray.size false):=
  ⟨by simp,fun j oj _ hl=>(by rw [getD_replicate_false]at hl;cases hl),fun t _ ht=>getD_in (by simpa using ht) (getD_replicate_false _ _)⟩
 have hst0:StandsA l.toArray C h V a (Array.replicate l.toArray.size false) a w.drew:=by
  refine⟨inv0,fun _=>undef,⟨rfl,rfl,fun i o t _ hi=>?_,fun _ _=>rfl⟩,hC0,fun i _ hl=>?_⟩
  ·have hi':(Array.replicate l.toArray.size false).getD i false=true:=hi
   rw [getD_replicate_false]at hi';cases hi'
  ·rw [getD_replicate_false]at hl;cases hl
 have hcome:toCome (Array.replicate l.toArray.size false) h=h:=by
  unfold toCome;rw [List.filter_eq_self.2 (fun i _=>by rw [getD_replicate_false];rfl)]
  simp
 have:=yzdw (P:=P) (Q:=Q) hB hN hCs hVs hS (fun a' u hst=>?_) h _ a w.drew hcome hst0
 ·rw [show h+(l.toArray.size - h)=l.toArray.size by omega]at this
  exact this
 ·obtain⟨inv,vs,hc,hC,hV⟩:=hst
  have hg:∀ i,i<h->(headArr l.toArray.size h).getD i false=true:=fun i hi=>by rw [xzbp,if_pos (by omega)];simpa using hi
  have hcall:Came l.toArray (fun j=>decide (j<h)) vs a a':=by
   refine⟨hc.1,hc.2.1,fun i o t ho hi ht=>hc.2.2.1 i o t ho (hg i (of_decide_eq_true hi)) ht,fun t ht=>hc.2.2.2 t fun i o ho hi=>ht i o ho ?_⟩;have:=xzdm inv i hi
   simpa using this
  have he:=hcall.unique (xzci hD hN hh vs h (Nat.le_refl _)) (fun _ _=>rfl);subst he
  simpa using hE vs u hC (fun i hi=>hV i hi (hg i hi))
def putT:Option Tmp->Value->Array Value->Array Value
 |some d,v,t=>t.setIfInBounds d v
 |none,_,t=>t
def tmpsTo (ops:Array Oper)(vs:Nat->Value)(t:Array Value):Nat->Array Value
 |0=>t
 |i+1=>putT ((ops[i]?).bind (·.dst)) (vs i) (tmpsTo ops vs t i)
theorem xzaa (ops:Array Oper)(vs:Nat->Value)(a0:Act):∀ i,textFrame ops vs a0 i={a0 with tmps:=tmpsTo ops vs a0.tmps i}
 |0=>rfl
 |i+1=>by
  unfold textFrame tmpsTo;rw [xzaa ops vs a0 i]
  cases (ops[i]?).bind (·.dst)<;>rfl
theorem xzca {o:Oper}{ev:Operand->Value}{w w':World}{v xv v':Value}(s x:Operand)(t t2:TypeId)(hop:o.op=Op.call {callee:=Callee.builtin Builtin.append,args:=#[s,x],argTypes:=#[t,t2]})(hs:ev s=v)(hx:ev x=xv)
 (hrun:(Builtin.append_ #[t,t2] o.type #[v,xv]).run P w=.ok v' w'):(execOp ev o).run P w=.ok (.value v') w':=by
 unfold execOp;simp only [hop,resolve,invoke,builtin,Sem.run_bind,Sem.run_pure,Result.andThen_ok,List.map_toArray,List.map_cons,List.map_nil,hs,hx,hrun]
end acts
end
end Go.Proofs.YtdjpphjpnkfeiaaGreatDoor
