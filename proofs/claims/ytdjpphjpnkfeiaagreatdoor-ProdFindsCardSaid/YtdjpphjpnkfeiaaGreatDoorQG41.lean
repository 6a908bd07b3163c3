/-
 WHAT hackleref12.Over ANSWERS: a contract. Condition: an automaton that may be lies there, its classes being bytes.
-/
import Derived.Deep.QuietTactic
import Derived.BigQuiet
import Derived.Test.YtdjpphjpnkfeiaaGreatDoorQG39
import Derived.Test.YtdjpphjpnkfeiaaGreatDoorQG40
import Derived.Test.YtdjpphjpnkfeiaaGreatDoorQG02
import Derived.Test.YtdjpphjpnkfeiaaGreatDoorQG26
import Derived.Test.YtdjpphjpnkfeiaaGreatDoorQG32
import Derived.Test.YtdjpphjpnkfeiaaGreatDoorQG14
namespace Go.Proofs.YtdjpphjpnkfeiaaGreatDoor
section
open Go.RowKit
attribute [local irreducible] FreeW textFrame
noncomputable def seekP (D:Df)(q:Int)(m:Nat->Bool)(b:Nat):Bool:=m b&&(decide (0<=D.stepR q b)&&lvB D (D.stepR q b))
theorem xzxr {D:Df}{q:Int}{m:Nat->Bool}{c:Nat}(hc:c<256)(h1:seekP D q m c=true)(h:∀ b,b<c->seekP D q m b=false):seekR D q m=some c:=by
 unfold seekR;rw [List.find?_eq_some_iff_getElem];refine⟨h1,c,by simpa using hc,by simp,fun j hj=>?_⟩;have:=h j hj;unfold seekP at this;simp only [List.getElem_range];rw [this];rfl
def OvS (w:World)(D:Df)(m:Nat->Bool)(x y:Value)(gl:Nat)(v:Value)(u:World):Prop:=Below w.heap.size w u/\DfB u w.heap.size D.of D.n x y/\BlkIs u (w.heap.size+1) 48 #[.int .u64 (wd m 0:Nat),.int .u64 (wd m 1:Nat),.int .u64 (wd m 2:Nat),.int .u64 (wd m 3:Nat)]/\BlkF u gl 4 D.next.length (fun i=>.bool (lvB D i))/\PairR w.heap.size u v (allF D D)
theorem OvS.step {w:World}{D:Df}{m:Nat->Bool}{x y:Value}{gl:Nat}{v:Value}{u u':World}(h:OvS w D m x y gl v u)(hb:Below u.heap.size u u'):OvS w D m x y gl v u':=
 ⟨h.1.trans (hb.mono h.1.size),h.2.1.step hb,h.2.2.1.step hb,BlkIs.step h.2.2.2.1 hb,h.2.2.2.2.step hb⟩
end
section
open Go.RowKit
def plusP:Tree:=.node 4 (fun _=>false) [ltr8 98] 1 (-1)
def exP:Tree:=.node 3 (fun _=>false) [ltr8 97,plusP] 0 0
def exQ:Tree:=.node 3 (fun _=>false) [ltr8 98,ltr8 99] 0 0
theorem yzfr:exP.mayN=true:=by decide+kernel
theorem eP_once:exP.once=true:=by decide+kernel
theorem xzxs:exP.nodes=4:=by decide+kernel
theorem eP_sumN:sumN [exP]=2:=by decide+kernel
theorem eP_sumP:sumP [exP]=2:=by decide+kernel
theorem xzol:∀ t∈[exP],t.mayN=true/\PartIs t/\t.nodes<=1048576:=by
 intro t ht;simp only [List.mem_cons,List.not_mem_nil,or_false]at ht;subst ht;exact⟨yzfr,xzgp exP (xzgd yzfr) eP_once (by rw [xzxs];decide),by rw [xzxs];decide⟩
theorem eP_okTs:okTs [exP]:=by
 unfold okTs;refine⟨xzvr exP (xzgd yzfr),?_⟩;unfold okTs
 trivial
theorem eP_sums:∀ j,0<=sumP ([exP].take j)/\sumP ([exP].take j)<=2000
 |0=>by simp [sumP]
 |j+1=>by
  show 0<=sumP (exP::[].take j)/\sumP (exP::[].take j)<=2000
  rw [List.take_nil,eP_sumP];decide
def NP:Nf:=buildN [exP]
theorem xzsn (A:Option Addr)(c:Nat)(w:World)(hat:∃ b o,A=some ⟨b,o,none⟩/\AllAt w [exP] b o):
 Calls Tryz.prog 44 #[.slice A 1 c] w fun x w'=>∃ v,x=.returned (.tuple #[v,.int .i64 0])/\NfaAt w' NP v/\Below w.heap.size w w':=
 xzkp [exP] (by decide) (by decide) (fun t ht=>(xzol t ht).1) (fun t ht=>(xzol t ht).2.1) eP_okTs (fun t ht=>(xzol t ht).2.2) (by rw [eP_sumN];decide) eP_sums A c w (fun _=>hat)
theorem NP_small:NP.sets.length=2/\NP.may=true:=by decide+kernel
theorem NP_of:∀ b,b<256->ofN NP b=if b=97 then 1 else if b=98 then 2 else 0:=by decide+kernel
theorem NP_cl:clN NP=3:=by decide+kernel
def lbP (k:Nat):Nat:=if k=0 then 0 else if k=1 then 97 else 98
set_option maxRecDepth 20000 in
theorem NP_lb:∀ k,k<3->lbN NP k=lbP k:=fun k hk=>by
 obtain⟨_,h1,h2,h3⟩:=xzzn NP (k:=k) (by rw [NP_cl];exact hk);rw [NP_of _ h1]at h2;unfold lbP
 have hl:∀ a,a<lbN NP k->(if a=97 then 1 else if a=98 then 2 else 0)≠k:=fun a ha=>by
  have:=h3 a ha
  rwa [NP_of a (by omega)]at this
 obtain rfl|rfl|rfl:k=0\/k=1\/k=2:=by omega
 ·simp only [if_true]
  rcases Nat.eq_zero_or_pos (lbN NP 0)with e|e
  ·exact e
  ·exact absurd rfl (hl 0 e)
 ·have:lbN NP 1=97:=by
   by_cases e:lbN NP 1=97
   ·exact e
   ·rw [if_neg e]at h2
    split at h2<;>cases h2
  rw [this,if_neg (by decide)];rfl
 ·have:lbN NP 2=98:=by
   by_cases e:lbN NP 2=97
   ·rw [if_pos e]at h2;cases h2
   ·rw [if_neg e]at h2
    by_cases e2:lbN NP 2=98
    ·exact e2
    ·rw [if_neg e2]at h2;cases h2
  rw [this,if_neg (by decide)];rfl
theorem NP_sub3:subTo NP lbP 3 3=some ([[],[0],[1]],[[-1,1,2],[-1, -1, -1],[-1, -1,2]]):=by decide+kernel
theorem NP_sub:subZ NP (lbN NP) (clN NP)=some ([[],[0],[1]],[[-1,1,2],[-1, -1, -1],[-1, -1,2]]):=by
 rw [NP_cl];refine xzgl NP (lbN NP) 3 3 ?_ (by decide);rw [xzkr NP 3 NP_lb];exact NP_sub3
def DP:Df:=⟨ofN NP,3,[[-1,1,2],[-1, -1, -1],[-1, -1,2]],[-1,0,0]⟩
theorem NP_tags:tagsL NP [[],[0],[1]]=[-1,0,0]:=by decide+kernel
theorem NP_ans:subAns NP=(DP,0):=by
 unfold subAns;rw [if_pos NP_small.2,NP_sub];simp only [NP_tags,NP_cl]
 rfl
theorem yzbz:DP.may=true:=by
 have h:mayB (ofN NP) ((3:Nat):Int)=true:=by rw [<-NP_cl];exact xzke _
 unfold Df.may;rw [show mayB DP.of DP.n=true from h]
 decide+kernel
theorem yzfs:exQ.mayN=true:=by decide+kernel
theorem eQ_once:exQ.once=true:=by decide+kernel
theorem xzxt:exQ.nodes=3:=by decide+kernel
theorem eQ_sumN:sumN [exQ]=2:=by decide+kernel
theorem eQ_sumP:sumP [exQ]=2:=by decide+kernel
theorem xzom:∀ t∈[exQ],t.mayN=true/\PartIs t/\t.nodes<=1048576:=by
 intro t ht;simp only [List.mem_cons,List.not_mem_nil,or_false]at ht;subst ht;exact⟨yzfs,xzgp exQ (xzgd yzfs) eQ_once (by rw [xzxt];decide),by rw [xzxt];decide⟩
theorem eQ_okTs:okTs [exQ]:=by
 unfold okTs;refine⟨xzvr exQ (xzgd yzfs),?_⟩;unfold okTs
 trivial
theorem eQ_sums:∀ j,0<=sumP ([exQ].take j)/\sumP ([exQ].take j)<=2000
 |0=>by simp [sumP]
 |j+1=>by
  show 0<=sumP (exQ::[].take j)/\sumP (exQ::[].take j)<=2000
  rw [List.take_nil,eQ_sumP];decide
def NQ:Nf:=buildN [exQ]
theorem xzso (A:Option Addr)(c:Nat)(w:World)(hat:∃ b o,A=some ⟨b,o,none⟩/\AllAt w [exQ] b o):
 Calls Tryz.prog 44 #[.slice A 1 c] w fun x w'=>∃ v,x=.returned (.tuple #[v,.int .i64 0])/\NfaAt w' NQ v/\Below w.heap.size w w':=
 xzkp [exQ] (by decide) (by decide) (fun t ht=>(xzom t ht).1) (fun t ht=>(xzom t ht).2.1) eQ_okTs (fun t ht=>(xzom t ht).2.2) (by rw [eQ_sumN];decide) eQ_sums A c w (fun _=>hat)
theorem NQ_small:NQ.sets.length=2/\NQ.may=true:=by decide+kernel
theorem NQ_of:∀ b,b<256->ofN NQ b=if b=98 then 1 else if b=99 then 2 else 0:=by decide+kernel
theorem NQ_cl:clN NQ=3:=by decide+kernel
def lbQ (k:Nat):Nat:=if k=0 then 0 else if k=1 then 98 else 99
set_option maxRecDepth 20000 in
theorem NQ_lb:∀ k,k<3->lbN NQ k=lbQ k:=fun k hk=>by
 obtain⟨_,h1,h2,h3⟩:=xzzn NQ (k:=k) (by rw [NQ_cl];exact hk);rw [NQ_of _ h1]at h2;unfold lbQ
 have hl:∀ a,a<lbN NQ k->(if a=98 then 1 else if a=99 then 2 else 0)≠k:=fun a ha=>by
  have:=h3 a ha
  rwa [NQ_of a (by omega)]at this
 obtain rfl|rfl|rfl:k=0\/k=1\/k=2:=by omega
 ·simp only [if_true]
  rcases Nat.eq_zero_or_pos (lbN NQ 0)with e|e
  ·exact e
  ·exact absurd rfl (hl 0 e)
 ·have:lbN NQ 1=98:=by
   by_cases e:lbN NQ 1=98
   ·exact e
   ·rw [if_neg e]at h2
    split at h2<;>cases h2
  rw [this,if_neg (by decide)];rfl
 ·have:lbN NQ 2=99:=by
   by_cases e:lbN NQ 2=98
   ·rw [if_pos e]at h2;cases h2
   ·rw [if_neg e]at h2
    by_cases e2:lbN NQ 2=99
    ·exact e2
    ·rw [if_neg e2]at h2;cases h2
  rw [this,if_neg (by decide)];rfl
theorem NQ_sub3:subTo NQ lbQ 3 3=some ([[],[0],[1]],[[-1,1,2],[-1, -1, -1],[-1, -1, -1]]):=by decide+kernel
theorem NQ_sub:subZ NQ (lbN NQ) (clN NQ)=some ([[],[0],[1]],[[-1,1,2],[-1, -1, -1],[-1, -1, -1]]):=by
 rw [NQ_cl];refine xzgl NQ (lbN NQ) 3 3 ?_ (by decide);rw [xzkr NQ 3 NQ_lb];exact NQ_sub3
def DQ:Df:=⟨ofN NQ,3,[[-1,1,2],[-1, -1, -1],[-1, -1, -1]],[-1,0,0]⟩
theorem NQ_tags:tagsL NQ [[],[0],[1]]=[-1,0,0]:=by decide+kernel
theorem NQ_ans:subAns NQ=(DQ,0):=by
 unfold subAns;rw [if_pos NQ_small.2,NQ_sub];simp only [NQ_tags,NQ_cl]
 rfl
theorem yzca:DQ.may=true:=by
 have h:mayB (ofN NQ) ((3:Nat):Int)=true:=by rw [<-NQ_cl];exact xzke _
 unfold Df.may;rw [show mayB DQ.of DQ.n=true from h]
 decide+kernel
theorem xziq {p:SS->Bool}{F G:List (SS×List Nat)}{x:SS×List Nat}(hp:F<+:G)(h:tellQ p F=some x):tellQ p G=some x:=by
 obtain⟨t,rfl⟩:=hp;unfold tellQ at h ⊢;rw [List.find?_append,h];rfl
theorem xzir {A B:Df}(hA:MayD A)(hB:MayD B):foundR A B 1<+:allF A B:=by rw [<-xzgt];exact xzed hA.wf hB.wf 1
theorem xzxu:foundR DP DQ 1=[((0,0),[]),((1, -1),[97]),((2,1),[98]),((-1,2),[99])]:=by decide+kernel
theorem yzft:foundR D9 D9 1=[((0,0),[]),((1,1),[97])]:=by decide+kernel
theorem PQ_both:tellQ (fun s=>qBoth (DP.tg s.1) (DQ.tg s.2)) (allF DP DQ)=some ((2,1),[98]):=xziq (xzir (xzlz yzbz) (xzlz yzca)) (by rw [xzxu];decide+kernel)
theorem PQ_diff:tellQ (fun s=>qDiff (DP.tg s.1) (DQ.tg s.2)) (allF DP DQ)=some ((1, -1),[97]):=xziq (xzir (xzlz yzbz) (xzlz yzca)) (by rw [xzxu];decide+kernel)
theorem D9_st:D9.stepR 1 98=2:=by decide+kernel
theorem D9_lv:lvB D9 2=true:=lvB_iff.2 (.tag (by decide) (by decide) (by decide))
theorem yzcs:seekR D9 1 (sRange 98 98)=some 98:=xzxr (by decide) (by
 unfold seekP;rw [D9_st,D9_lv]
 decide+kernel) fun b hb=>by
 have:sRange 98 98 b=false:=by unfold sRange;simp;omega
 unfold seekP;rw [this,Bool.false_and]
theorem D9_tell:tellQ (askR D9 0 (sRange 98 98)) (allF D9 D9)=some ((1,1),[97]):=xziq (xzir (xzlz yzau) (xzlz yzau)) (by
 rw [yzft]
 have h0:askR D9 0 (sRange 98 98) ((0,0):SS)=false:=by
  unfold askR;rw [show decide (D9.tg ((0,0):SS).1=0)=false by decide+kernel,Bool.false_and]
 have h1:askR D9 0 (sRange 98 98) ((1,1):SS)=true:=by
  unfold askR;rw [show decide (D9.tg ((1,1):SS).1=0)=true by decide+kernel,show((1,1):SS).1=1 from rfl,yzcs]
  rfl
 unfold tellQ
 rw [List.find?_cons,h0,List.find?_cons,h1])
theorem D9_over:overP D9.trim 0 (sRange 98 98)=some ([97],98):=by
 unfold Df.trim;rw [if_pos yzau,over_eq (xzlz yzau) (Int.le_refl _)];unfold overR;rw [D9_tell,Option.map_some,yzcs]
 rfl
end
section
open Go.RowKit
attribute [local irreducible] FreeW textFrame
theorem xzxv {B n z k:Nat}{W:World}{v:Value}{xs:List Value}{e:TypeId}(h:W.ownsRow B e z v n xs)(hk:v.ownBlock=some k):∃ cur,BlkIs W k e cur:=by
 rcases h.2 with⟨rfl,_⟩|⟨g,cap,cur,rfl,_,h2,_⟩
 ·simp [Value.ownBlock]at hk
 ·have:g=k:=by simpa [Value.ownBlock]using hk
  subst this;exact⟨cur,h2⟩
def DfKeep (w0:Nat)(u:World)(D:Df)(v:Value):Prop:=∀ W:World,(∀ k t cs,BlkIs u k t cs->t≠35->w0<=k->W.heap[k]? =u.heap[k]?)->DfAt W D v
theorem DfKeep.at {w0:Nat}{u:World}{D:Df}{v:Value}(h:DfKeep w0 u D v):DfAt u D v:=h u fun _ _ _ _ _ _=>rfl
theorem DfKeep.via {w0 w1:Nat}{u u':World}{D:Df}{v:Value}(h:DfKeep w0 u D v)(hw:w1<=w0)(hk:∀ k t cs,BlkIs u k t cs->t≠35->w0<=k->u'.heap[k]? =u.heap[k]?):DfKeep w1 u' D v:=fun W hW=>
 h W fun k t cs hb ht hl=>(hW k t cs ((hk k t cs hb ht hl).trans hb) ht (Nat.le_trans hw hl)).trans (hk k t cs hb ht hl)
theorem DfKeep.step {w0:Nat}{u u':World}{D:Df}{v:Value}(h:DfKeep w0 u D v)(hb:Below u.heap.size u u'):DfKeep w0 u' D v:=h.via (Nat.le_refl _) fun k _ _ hk _ _=>hb.block k (BlkIs.lt hk)
theorem sm_df2 {N:Nf}{w W:World}{ρ:Nat->Nat}{L R:List (List Int)}{fol tak:List (Nat->Bool)}{V:MkV}{bs:Nat->Nat}(h:SM (spN N w) ρ ⟨L,L,R,tagsL N L,fol,tak⟩ V bs W)(hz:subZ N (lbN N) (clN N)=some (L,R)):
 ∀ W':World,(∀ k t cs,BlkIs W k t cs->t≠35->w.heap.size<=k->W'.heap[k]? =W.heap[k]?)->RowsI W' R V.next/\IntsV W' (tagsL N L) V.tag:=by
 have F: ¬ False:=fun h=>h
 intro W' hk;refine⟨rowsD (xzau (h.nx F) fun k hk'=>?_) (fun i hi=>?_) (xzhp _ _ _ _ _ _ hz) (show clN N<=_ by have:=xzzo N;omega),RowI.ints (xzbd (h.tg F) fun k hk'=>?_)⟩
 ·obtain⟨cur,hc⟩:=xzxv (h.nx F) hk'
  exact hk k _ _ hc (by decide) (World.ownsRow.lt (h.nx F) k hk').1
 ·exact(hk _ _ _ (h.rw i hi F) (by decide) (h.rlow i hi)).trans (h.rw i hi F)
 ·obtain⟨cur,hc⟩:=xzxv (h.tg F) hk'
  exact hk k _ _ hc (by decide) (World.ownsRow.lt (h.tg F) k hk').1
set_option maxRecDepth 20000 in
set_option maxHeartbeats 16000000 in
theorem xzsp (N:Nf)(v:Value)(w:World)(h:NfaAt w N v)(hms:N.sets.length<=2000)(hT:Tab w):
 Calls Tryz.prog 45 #[v] w fun e w'=>∃ vd,e=.returned (.tuple #[vd,.int .i64 (subAns N).2])/\DfKeep w.heap.size w' (subAns N).1 vd/\Below w.heap.size w w':=by
 obtain⟨A0,A1,A2,A3,A4,c0,c1,c2,c3,c4,rfl⟩:=h.form;obtain⟨W1,hW1⟩:∃ W1,w.alloc (.cells #[.slice A0 N.sets.length c0,.slice A1 N.rules.length c1,.slice A2 N.first.length c2,.slice A3 N.follow.length c3,.slice A4 N.ends.length c4,.int .i64 N.empty] 86)=W1:=⟨_,rfl⟩;obtain⟨W2,hW2⟩:∃ W2,W1.alloc (.cells df0 35)=W2:=⟨_,rfl⟩
 have hs1:W1.heap.size=w.heap.size+1:=by rw [<-hW1];simp
 have hs2:W2.heap.size=w.heap.size+2:=by rw [<-hW2];simp [hs1]
 have hb1:Below w.heap.size w W1:=by rw [<-hW1];exact(Below.refl _ _).alloc (Nat.le_refl _) _
 have hb2:Below w.heap.size w W2:=by rw [<-hW2];exact hb1.alloc (by omega) _
 have hx1:BlkIs W1 w.heap.size 86 #[.slice A0 N.sets.length c0,.slice A1 N.rules.length c1,.slice A2 N.first.length c2,.slice A3 N.follow.length c3,.slice A4 N.ends.length c4,.int .i64 N.empty]:=by rw [<-hW1];exact BlkIs.new _ _ _
 have hx2:BlkIs W2 w.heap.size 86 #[.slice A0 N.sets.length c0,.slice A1 N.rules.length c1,.slice A2 N.first.length c2,.slice A3 N.follow.length c3,.slice A4 N.ends.length c4,.int .i64 N.empty]:=by rw [<-hW2];exact hx1.alloc _
 have hd2:BlkIs W2 (w.heap.size+1) 35 df0:=by rw [<-hW2,<-hs1];exact BlkIs.new _ _ _
 have z:=zeroDf;have HMA:=zd (fun(u:World) (hu:Below w.heap.size w u)=>yzdk N _ u (h.step hu));obtain⟨c0',c1',c2',c3',c4',c5'⟩:=six hx2;have HX:=zd (And.intro hx2 (And.intro hd2 hb2));have HNF:=zd h;have HTT:=zd hT;have HMS:=zd hms;clear h hT hb1 hb2 hx1 hx2 hd2 hms;obtain⟨d0,hd0⟩:∃ d0,df0=d0:=⟨_,rfl⟩;rw [hd0]at hW2 z;have hd00:=xzac (fun _=>0) 0 (.slice none 0 0) (.slice none 0 0)
 go_enter Tryz.func45,Tryz.ntmps45
 go_wp2_with fail
 go_at_call 62
 refine(HMA.out _ HX.out.2.2).mono ?_;rintro e u1 ⟨rfl,hbu⟩;have hb1:=HX.out.2.2.trans (hbu.mono HX.out.2.2.size);have hd1:=BlkIs.step HX.out.2.1 hbu;have hx1:=BlkIs.step HX.out.1 hbu
 cases hmay:N.may with
 |false=>
  have HA:=zd (show subAns N=(dfNone,1)by unfold subAns;rw [hmay];rfl);obtain⟨W9,hsc,hb9,hw9⟩:=xzbe (P:=Tryz.prog) hd1 (new:=df0) rfl (xzct _ _ _ _ rfl rfl);have hl9:=loadVarDf (DfB.of hb9);have HB9:=zd (hw9.2.1 _ _ (by omega) hb1);have hs9:df0.size=259:=xzac _ _ _ _;rw [hd0]at hsc hs9;rw [show dfC (fun _=>0) 0 (.slice none 0 0) (.slice none 0 0)=d0 from hd0]at hl9;clear hb1 hx1 hd1 hb9 hw9 HMA HX c0' c1' c2' c3' c4' c5' hbu;go_wp2;refine⟨rfl,_,xzch rfl rfl hl9,_,by rw [HA.out];rfl,?_,HB9.out⟩;rw [HA.out,<-hd0]
  exact fun W _=>xzkh W
 |true=>
  have HMI:=zd (may_is hmay);have HNM:=zd (xzno N _ u1 (HNF.out.step hb1) HMS.out (HTT.out.step hb1) (by have:=HMI.out.small;have:=HMI.out.follow;omega) (fun l hl p hp=>by have:=HMI.out.rows l hl p hp;have:=HMI.out.small;omega));have hx1':=six hx1;obtain⟨e0,e1,e2,e3,e4,e5⟩:=hx1';clear HMA HX c0' c1' c2' c3' c4' c5'
  go_wp2_with fail
  go_at_call 63
  refine HNM.out.mono ?_;rintro e u2 ⟨rfl,ρ,V,bs,hsm⟩;have HFA:=zd (xzut (spN N u1) ρ _ V bs u2 hsm HMI.out (lbN N) (xzzo N) ⟨rfl,rfl,rfl,rfl⟩ rfl rfl);have HD1:=zd (And.intro hd1 hb1);clear hsm HNM hd1 hb1 hx1 e0 e1 e2 e3 e4 e5 hbu
  go_wp2_with fail
  go_at_call 64
  refine HFA.out.mono ?_;rintro e u3 ⟨hf1,hf2⟩
  cases hz:subZ N (lbN N) (clN N)with
  |none=>
   obtain⟨rfl,hbu⟩:=hf2 hz;have HA:=zd (show subAns N=(dfNone,4)by unfold subAns;rw [hmay,hz];rfl);have hbu:Below u1.heap.size u1 u3:=hbu;have hd1:=BlkIs.step HD1.out.1 hbu;obtain⟨W9,hsc,hb9,hw9⟩:=xzbe (P:=Tryz.prog) hd1 (new:=df0) rfl (xzct _ _ _ _ rfl rfl);have hl9:=loadVarDf (DfB.of hb9);have HB9:=zd (hw9.2.1 _ _ (by omega) (HD1.out.2.trans (hbu.mono HD1.out.2.size)));have hs9:df0.size=259:=xzac _ _ _ _;rw [hd0]at hsc hs9;rw [show dfC (fun _=>0) 0 (.slice none 0 0) (.slice none 0 0)=d0 from hd0]at hl9;clear hf1 hf2 hd1 hb9 hw9 HFA hbu;go_wp2;refine⟨rfl,_,xzch rfl rfl hl9,_,by rw [HA.out];rfl,?_,HB9.out⟩;rw [HA.out,<-hd0]
   exact fun W _=>xzkh W
  |some LR=>
   obtain⟨L,R⟩:=LR;obtain⟨rfl,ρ',V',bs',hsm⟩:=hf1 L R hz;have HA:=zd (show subAns N=(⟨ofN N,(clN N:Nat),R,tagsL N L⟩,0)by unfold subAns;rw [hmay,hz];rfl);have hbu:Below u1.heap.size u1 u3:=hsm.below;have hd1:=BlkIs.step HD1.out.1 hbu;obtain⟨hdf,⟨An,cn,en⟩,⟨At,ct,et⟩,hkey⟩:=sm_df hsm hz
   have hn1:V'.next.oneCell'=true:=by rw [en];rfl
   have ht1:V'.tag.oneCell'=true:=by rw [et];rfl
   obtain⟨W9,hsc,hb9,hw9⟩:=xzbe (P:=Tryz.prog) hd1 (new:=dfC (ofN N) (clN N:Nat) V'.next V'.tag) (by rw [xzac];exact(xzac _ _ _ _).symm) (xzct _ _ _ _ hn1 ht1);have hl9:=loadVarDf (DfB.of hb9);have HB9:=zd (hw9.2.1 _ _ (by omega) (HD1.out.2.trans (hbu.mono HD1.out.2.size)));have hs9:(dfC (ofN N) (clN N:Nat) V'.next V'.tag).size=259:=xzac _ _ _ _;have hsb1:=HD1.out.2.size;have hkey2:=sm_df2 hsm hz
   have HR:=zd (fun(W:World) (hW:∀ k t cs,BlkIs W9 k t cs->t≠35->w.heap.size<=k->W.heap[k]? =W9.heap[k]?)=>hkey2 W fun k t cs hb ht hk=>by
    have e9:=hw9.1 k (by have:=BlkIs.lt HD1.out.1;omega)
    exact(hW k t cs (e9.trans hb) ht (by omega)).trans e9)
   clear hkey2;have hlow:w.heap.size+1<u1.heap.size:=BlkIs.lt HD1.out.1;generalize hvn:V'.next=vn at*;generalize hvt:V'.tag=vt at*;obtain⟨d9,hd9⟩:∃ d9,dfC (ofN N) (clN N:Nat) vn vt=d9:=⟨_,rfl⟩;have hl3:=loadDf hdf;rw [hd9]at hsc hs9 hl9 hl3
   have hld:∀ {ops:Array Oper} {rest:List Oper} {op:Oper} {a:Act} {Q:Exit->Act->World->Prop} (_:op.guard=none) (x:Operand) (_:op.op=.load 35 x) (_:a.eval x=.pointer (some ⟨u1.heap.size+2,0,none⟩)) (_:wpList Tryz.prog ops Q rest (a.put op.dst (.agg d9)) u3),wpList Tryz.prog ops Q (op::rest) a u3:=fun hg x ho hx hK=>xzag hg x ho hx hdf (by rw [hd9];exact hK)
   clear hf1 hf2 hd1 hb9 hw9 HFA hbu hkey hdf hsm hl3 hn1 ht1
   go_wp2_with(refine hld rfl _ rfl rfl ?_)
   refine⟨rfl,_,xzch rfl rfl hl9,_,by rw [HA.out];rfl,?_,HB9.out⟩;rw [HA.out]
   exact fun W hW=>⟨vn,vt,congrArg Value.agg hd9.symm,HR.out W hW⟩
end
end Go.Proofs.YtdjpphjpnkfeiaaGreatDoor
