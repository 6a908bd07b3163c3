/-
 THE SUBSETS AS AN AUTOMATON: rows of what the maker holds; what dfa.Subset answers, by plain functions. No condition but those of each theorem.
-/
import Derived.Test.YtgbljnnmhmlifaaGreatDoorQG38
import Derived.Test.YtgbljnnmhmlifaaGreatDoorQG39
import Derived.Test.YtgbljnnmhmlifaaGreatDoorQG36
import Derived.Test.YtgbljnnmhmlifaaGreatDoorQG06
import Derived.Test.YtgbljnnmhmlifaaGreatDoorQG13
namespace Go.Proofs.YtgbljnnmhmlifaaGreatDoor
section
open Go.RowKit
theorem rowsD {W:World}{B C:Nat}{v:Value}{L:List (List Int)}{bs:Nat->Nat}(h:W.ownsRow B 26 1 v L.length (hdrs bs C L.length))(hr:∀ (i:Nat) (h:i<L.length),BlkF W (bs i) 3 C (intF L[i]))(hl:∀ r∈L,r.length=C)(hC:C<=9223372036854775807):RowsI W L v:=by
 rcases h.2 with⟨rfl,h0⟩|⟨g,cap,cur,rfl,h1,h2,h3,h4,_⟩
 ·obtain rfl:=List.eq_nil_of_length_eq_zero h0
  exact⟨none,0,rfl,⟨by simp,by simp⟩,fun hne=>absurd rfl hne⟩
 ·refine⟨_,cap,rfl,⟨h3,by unfold maxLen at h4;omega⟩,fun _=>⟨g,0,rfl,(Array.getElem?_eq_some_iff.1 h2).1,fun i hi=>⟨.slice (some ⟨bs i,0,none⟩) C C,?_,?_⟩⟩⟩
  ·have:=World.ownsRow.cells (g:=g) h rfl i (.slice (some ⟨bs i,0,none⟩) C C) (by unfold hdrs;rw [List.getElem?_map,List.getElem?_range hi];rfl)
   rw [Addr.add_lit]at this;exact this
  ·have hli:L[i].length=C:=hl _ (List.getElem_mem hi)
   refine⟨some ⟨bs i,0,none⟩,C,by rw [hli],⟨by omega,hC⟩,fun _=>⟨bs i,0,rfl,BlkIs.lt (hr i hi),fun j hj=>?_⟩⟩;rw [Nat.zero_add,(hr i hi).cell (by omega)];unfold intF;rw [List.getD_eq_getElem?_getD,List.getElem?_eq_getElem hj];rfl
theorem xziv (N:Nf)(lb:Nat->Nat)(C:Nat):∀ n L R,subTo N lb C n=some (L,R)->∀ r∈R,r.length=C
 |0,L,R,h=>by
  simp only [subTo,zh,Prod.mk.injEq]at h;obtain⟨rfl,rfl⟩:=h;intro r hr;cases hr
 |n+1,L,R,h=>by
  simp only [subTo]at h
  cases hs:subTo N lb C n with
  |none=>rw [hs]at h;cases h
  |some p=>
   obtain⟨L0,R0⟩:=p;rw [hs]at h;have ih:=xziv N lb C n L0 R0 hs;simp only at h
   split at h
   ·split at h
    ·cases h
    ·simp only [zh,Prod.mk.injEq]at h
     obtain⟨rfl,rfl⟩:=h;intro r hr
     rcases List.mem_append.1 hr with h1|h1
     ·exact ih r h1
     ·rw [List.mem_singleton]at h1;subst h1;exact xzhi _ _ _ _ _
   ·simp only [zh,Prod.mk.injEq]at h
    obtain⟨rfl,rfl⟩:=h;exact ih
def dfNone:Df:=⟨fun _=>0,0,[],[]⟩
def subAns (N:Nf):Df×Int:=if N.may then(match subZ N (lbN N) (clN N)with|none=>(dfNone,4)|some (L,R)=>(⟨ofN N,(clN N:Nat),R,tagsL N L⟩,0))else(dfNone,1)
theorem xzlh (W:World):DfAt W dfNone (.agg df0):=⟨.slice none 0 0,.slice none 0 0,rfl,⟨none,0,rfl,⟨Nat.le_refl _,by decide⟩,fun h=>absurd rfl h⟩,IntsV.nil W⟩
theorem sm_df {N:Nf}{w W:World}{ρ:Nat->Nat}{L R:List (List Int)}{fol tak:List (Nat->Bool)}{V:MkV}{bs:Nat->Nat}(h:SM (spN N w) ρ ⟨L,L,R,tagsL N L,fol,tak⟩ V bs W)(hz:subZ N (lbN N) (clN N)=some (L,R)):
 DfB W (w.heap.size+2) (ofN N) (clN N:Nat) V.next V.tag/\(∃ A c,V.next=.slice A R.length c)/\(∃ A c,V.tag=.slice A (tagsL N L).length c)/\∀ W':World,(∀ k,w.heap.size<=k->W'.heap[k]? =W.heap[k]?)->RowsI W' R V.next/\IntsV W' (tagsL N L) V.tag:=by
 have F: ¬ False:=fun h=>h
 have h1:=DfB.ofMk (h.blk F)
 have key:∀ W':World,(∀ k,w.heap.size<=k->W'.heap[k]? =W.heap[k]?)->RowsI W' R V.next/\IntsV W' (tagsL N L) V.tag:=fun W' hk=>
  ⟨rowsD (xzaz (h.nx F) fun k hk'=>hk k (World.ownsRow.lt (h.nx F) k hk').1) (fun i hi=>(hk _ (h.rlow i hi)).trans (h.rw i hi F)) (xziv _ _ _ _ _ _ hz) (show clN N<=_ by have:=yzhh N;omega),
   RowI.ints (xzbh (h.tg F) fun k hk'=>hk k (World.ownsRow.lt (h.tg F) k hk').1)⟩
 obtain⟨h2,h3⟩:=key W fun _ _=>rfl
 obtain⟨hv1,hv2,_⟩:=h.vals;rw [show V.of=ofN N from hv1,show V.n=clN N from hv2]at h1;exact⟨h1,(by obtain⟨A,c,e,_⟩:=h2;exact⟨A,c,e⟩),(by obtain⟨A,c,e,_⟩:=h3;exact⟨A,c,e⟩),key⟩
end
section
open Go.RowKit
attribute [local irreducible] FreeW textFrame
theorem xzch {fn:Func}{p q:Tmp}{ty:TypeId}{tmps:Array Value}{P:Program}{w w':World}{a:Addr}{v:Value}(h:fn.results=#[.cell p ty,.tmp q])(hp:tmps.getD p undef=.pointer (some a))(hl:(loadVar ty a).run P w=.ok v w'):
 (results fn tmps).run P w=.ok (.tuple #[v,tmps.getD q undef]) w':=by
 rw [results_cell_tmp h,hp]
 simp [asAddr,hl,Result.andThen]
set_option maxRecDepth 20000 in
set_option maxHeartbeats 16000000 in
theorem xzns (N:Nf)(v:Value)(w:World)(h:NfaAt w N v)(hms:N.sets.length<=2000)(hT:Tab w):
 Calls Tryz.prog 8 #[v] w fun e w'=>∃ vd,e=.returned (.tuple #[vd,.int .i64 (subAns N).2])/\DfAt w' (subAns N).1 vd/\Below w.heap.size w w':=by
 obtain⟨A0,A1,A2,A3,A4,c0,c1,c2,c3,c4,rfl⟩:=h.form;obtain⟨W1,hW1⟩:∃ W1,w.alloc (.cells #[.slice A0 N.sets.length c0,.slice A1 N.rules.length c1,.slice A2 N.first.length c2,.slice A3 N.follow.length c3,.slice A4 N.ends.length c4,.int .i64 N.empty] 30)=W1:=⟨_,rfl⟩;obtain⟨W2,hW2⟩:∃ W2,W1.alloc (.cells df0 38)=W2:=⟨_,rfl⟩
 have hs1:W1.heap.size=w.heap.size+1:=by rw [<-hW1];simp
 have hs2:W2.heap.size=w.heap.size+2:=by rw [<-hW2];simp [hs1]
 have hb1:Below w.heap.size w W1:=by rw [<-hW1];exact(Below.refl _ _).alloc (Nat.le_refl _) _
 have hb2:Below w.heap.size w W2:=by rw [<-hW2];exact hb1.alloc (by omega) _
 have hx1:BlkIs W1 w.heap.size 30 #[.slice A0 N.sets.length c0,.slice A1 N.rules.length c1,.slice A2 N.first.length c2,.slice A3 N.follow.length c3,.slice A4 N.ends.length c4,.int .i64 N.empty]:=by rw [<-hW1];exact BlkIs.new _ _ _
 have hx2:BlkIs W2 w.heap.size 30 #[.slice A0 N.sets.length c0,.slice A1 N.rules.length c1,.slice A2 N.first.length c2,.slice A3 N.follow.length c3,.slice A4 N.ends.length c4,.int .i64 N.empty]:=by rw [<-hW2];exact hx1.alloc _
 have hd2:BlkIs W2 (w.heap.size+1) 38 df0:=by rw [<-hW2,<-hs1];exact BlkIs.new _ _ _
 have z:=zeroDf;have HMA:=zd (fun(u:World) (hu:Below w.heap.size w u)=>yzfd N _ u (h.step hu));obtain⟨c0',c1',c2',c3',c4',c5'⟩:=six hx2;have HX:=zd (And.intro hx2 (And.intro hd2 hb2));have HNF:=zd h;have HTT:=zd hT;have HMS:=zd hms;clear h hT hb1 hb2 hx1 hx2 hd2 hms;obtain⟨d0,hd0⟩:∃ d0,df0=d0:=⟨_,rfl⟩;rw [hd0]at hW2 z;have hd00:=xzak (fun _=>0) 0 (.slice none 0 0) (.slice none 0 0)
 go_enter Tryz.func8,Tryz.ntmps8
 go_wp2_with fail
 go_at_call 22
 refine(HMA.out _ HX.out.2.2).mono ?_;rintro e u1 ⟨rfl,hbu⟩;have hb1:=HX.out.2.2.trans (hbu.mono HX.out.2.2.size);have hd1:=BlkIs.step HX.out.2.1 hbu;have hx1:=BlkIs.step HX.out.1 hbu
 cases hmay:N.may with
 |false=>
  have HA:=zd (show subAns N=(dfNone,1)by unfold subAns;rw [hmay];rfl);obtain⟨W9,hsc,hb9,hw9⟩:=xzbz (P:=Tryz.prog) hd1 (new:=df0) rfl (xzfv _ _ _ _ rfl rfl);have hl9:=loadVarDf (DfB.of hb9);have HB9:=zd (hw9.2.1 _ _ (by omega) hb1);have hs9:df0.size=259:=xzak _ _ _ _;rw [hd0]at hsc hs9;rw [show dfC (fun _=>0) 0 (.slice none 0 0) (.slice none 0 0)=d0 from hd0]at hl9;clear hb1 hx1 hd1 hb9 hw9 HMA HX c0' c1' c2' c3' c4' c5' hbu;go_wp2;refine⟨rfl,_,xzch rfl rfl hl9,_,by rw [HA.out];rfl,?_,HB9.out⟩;rw [HA.out,<-hd0];exact xzlh W9
 |true=>
  have HMI:=zd (xzux hmay);have HNM:=zd (xzpm N _ u1 (HNF.out.step hb1) HMS.out (HTT.out.step hb1) (by have:=HMI.out.small;have:=HMI.out.follow;omega) (fun l hl p hp=>by have:=HMI.out.rows l hl p hp;have:=HMI.out.small;omega));have hx1':=six hx1;obtain⟨e0,e1,e2,e3,e4,e5⟩:=hx1';clear HMA HX c0' c1' c2' c3' c4' c5'
  go_wp2_with fail
  go_at_call 23
  refine HNM.out.mono ?_;rintro e u2 ⟨rfl,ρ,V,bs,hsm⟩;have HFA:=zd (xzyj (spN N u1) ρ _ V bs u2 hsm HMI.out (lbN N) (yzhh N) ⟨rfl,rfl,rfl,rfl⟩ rfl rfl);have HD1:=zd (And.intro hd1 hb1);clear hsm HNM hd1 hb1 hx1 e0 e1 e2 e3 e4 e5 hbu
  go_wp2_with fail
  go_at_call 24
  refine HFA.out.mono ?_;rintro e u3 ⟨hf1,hf2⟩
  cases hz:subZ N (lbN N) (clN N)with
  |none=>
   obtain⟨rfl,hbu⟩:=hf2 hz;have HA:=zd (show subAns N=(dfNone,4)by unfold subAns;rw [hmay,hz];rfl);have hbu:Below u1.heap.size u1 u3:=hbu;have hd1:=BlkIs.step HD1.out.1 hbu;obtain⟨W9,hsc,hb9,hw9⟩:=xzbz (P:=Tryz.prog) hd1 (new:=df0) rfl (xzfv _ _ _ _ rfl rfl);have hl9:=loadVarDf (DfB.of hb9);have HB9:=zd (hw9.2.1 _ _ (by omega) (HD1.out.2.trans (hbu.mono HD1.out.2.size)));have hs9:df0.size=259:=xzak _ _ _ _;rw [hd0]at hsc hs9;rw [show dfC (fun _=>0) 0 (.slice none 0 0) (.slice none 0 0)=d0 from hd0]at hl9;clear hf1 hf2 hd1 hb9 hw9 HFA hbu;go_wp2;refine⟨rfl,_,xzch rfl rfl hl9,_,by rw [HA.out];rfl,?_,HB9.out⟩;rw [HA.out,<-hd0];exact xzlh W9
  |some LR=>
   obtain⟨L,R⟩:=LR;obtain⟨rfl,ρ',V',bs',hsm⟩:=hf1 L R hz;have HA:=zd (show subAns N=(⟨ofN N,(clN N:Nat),R,tagsL N L⟩,0)by unfold subAns;rw [hmay,hz];rfl);have hbu:Below u1.heap.size u1 u3:=hsm.below;have hd1:=BlkIs.step HD1.out.1 hbu;obtain⟨hdf,⟨An,cn,en⟩,⟨At,ct,et⟩,hkey⟩:=sm_df hsm hz
   have hn1:V'.next.oneCell'=true:=by rw [en];rfl
   have ht1:V'.tag.oneCell'=true:=by rw [et];rfl
   obtain⟨W9,hsc,hb9,hw9⟩:=xzbz (P:=Tryz.prog) hd1 (new:=dfC (ofN N) (clN N:Nat) V'.next V'.tag) (by rw [xzak];exact(xzak _ _ _ _).symm) (xzfv _ _ _ _ hn1 ht1);have hl9:=loadVarDf (DfB.of hb9);have HB9:=zd (hw9.2.1 _ _ (by omega) (HD1.out.2.trans (hbu.mono HD1.out.2.size)));have hs9:(dfC (ofN N) (clN N:Nat) V'.next V'.tag).size=259:=xzak _ _ _ _;have HR:=zd (hkey W9 fun k hk=>hw9.1 k (by have:=BlkIs.lt HD1.out.1;omega));have hlow:w.heap.size+1<u1.heap.size:=BlkIs.lt HD1.out.1;generalize hvn:V'.next=vn at*;generalize hvt:V'.tag=vt at*;obtain⟨d9,hd9⟩:∃ d9,dfC (ofN N) (clN N:Nat) vn vt=d9:=⟨_,rfl⟩;have hl3:=loadDf hdf;rw [hd9]at hsc hs9 hl9 hl3
   have hld:∀ {ops:Array Oper} {rest:List Oper} {op:Oper} {a:Act} {Q:Exit->Act->World->Prop} (_:op.guard=none) (x:Operand) (_:op.op=.load 38 x) (_:a.eval x=.pointer (some ⟨u1.heap.size+2,0,none⟩)) (_:wpList Tryz.prog ops Q rest (a.put op.dst (.agg d9)) u3),wpList Tryz.prog ops Q (op::rest) a u3:=fun hg x ho hx hK=>xzej hg x ho hx hdf (by rw [hd9];exact hK)
   clear hf1 hf2 hd1 hb9 hw9 HFA hbu hkey hdf hsm hl3 hn1 ht1
   go_wp2_with(refine hld rfl _ rfl rfl ?_)
   refine⟨rfl,_,xzch rfl rfl hl9,_,by rw [HA.out];rfl,?_,HB9.out⟩;rw [HA.out];exact⟨vn,vt,congrArg Value.agg hd9.symm,HR.out⟩
end
section
open Go.RowKit
attribute [local irreducible] FreeW
def inB (many:Int)(l:List Int):Bool:=l.all fun n=>decide (-1<=n)&&decide (n<many)
set_option maxHeartbeats 2000000 in
theorem xznt (l:List Int)(v:Value)(all:Int)(w:World)(hv:IntsV w l v):Calls Tryz.prog 49 #[v,.int .i64 all] w fun e w'=>e=.returned (.bool (inB all l))/\w'=w:=by
 obtain⟨A,c,rfl,hc,hs⟩:=hv;have HS:=zd hs;obtain⟨R,hR⟩:∃ R,R=inB all l:=⟨_,rfl⟩;rw [<-hR];have HR:=zd hR;clear hs hR
 go_enter Tryz.func49,Tryz.ntmps49
 go_wp2
 go_loopw [6,9] (fun _ i wr=>∃ (j:Nat),i=.int .i64 j/\j<=l.length/\Hid (wr=w/\R=inB all (l.drop j))) (fun _ i _=>l.length - (intOf i).toNat)
 case atStart=>exact⟨0,rfl,Nat.zero_le _,zd ⟨rfl,HR.out⟩⟩
 case round=>
  obtain⟨j,rfl,hj,HH⟩:=hrel;obtain⟨rfl,hRR⟩:=HH.out;have HH:=zd hRR;clear hRR
  by_cases hp:j<l.length
  ·have hk1:IntKind.i64.wrap ((j:Int)+1)=((j+1:Nat):Int):=by rw [IntKind.wrap_i64];omega
   have hdl:decide ((j:Int)<(l.length:Int))=true:=by simp;omega
   obtain⟨b,o,rfl,hlt,hg⟩:=HS.out (by intro e;subst e;simp at hp);have hcell:=hg j hp;have hd:=HH.out;rw [List.drop_eq_getElem_cons hp]at hd;unfold inB at hd;rw [List.all_cons]at hd;clear hg;generalize l[j]=p at*;have HD:=zd hd;clear hd
   by_cases h1:p< -1
   ·have e1:decide (p< -1)=true:=by simp;omega
    have HN:=zd (show R=false by rw [HD.out];simp;omega);clear h1;go_wp2;go_ret;exact⟨by rw [HN.out];rfl,rfl⟩
   ·have e1:decide (p< -1)=false:=by simp;omega
    by_cases h2:p<all
    ·have e2:decide (p>=all)=false:=by simp;omega
     have e2b:decide (all<=p)=false:=by simp;omega
     have HN:=zd (show R=inB all (l.drop (j+1))by rw [HD.out];unfold inB;simp [h2];omega);clear h1 h2;go_wp2;exact⟨⟨j+1,rfl,hp,zd ⟨by trivial,HN.out⟩⟩,by simp [intOf];omega⟩
    ·have e2:decide (p>=all)=true:=by simp;omega
     have e2b:decide (all<=p)=true:=by simp;omega
     have HN:=zd (show R=false by rw [HD.out];simp [h2]);clear h1 h2;go_wp2;go_ret;exact⟨by rw [HN.out];rfl,rfl⟩
  ·have hdl:decide ((j:Int)<(l.length:Int))=false:=by simp;omega
   obtain rfl:j=l.length:=by omega
   have HN:=zd (show R=true by rw [HH.out];unfold inB;simp);go_wp2;go_ret;exact⟨by rw [HN.out];rfl,rfl⟩
def Df.sized (D:Df):Bool:=decide (D.next.length<=600)&&(D.tag.length==D.next.length)
def rowOk (n:Int)(all:Int)(r:List Int):Bool:=((r.length:Int)==n)&&inB all r
def Df.may (D:Df):Bool:=D.sized&&(mayB D.of D.n&&(D.next.all (rowOk D.n D.next.length)&&inB 40 D.tag))
section
variable {op : Oper} {a : Act} {w : World} {K : Act → World → Prop} {Q : Exit → Act → World → Prop} {g : Nat} {f : Nat → Nat} {n : Int} {vn vt : Value}
theorem yzda (x:Operand)(ho:op.op=.load 36 x)(hx:a.eval x=.pointer (some ⟨g,0,none⟩))(h:DfB w g f n vn vt)
 (hK:K (a.put op.dst (.agg (clsC f n))) w):op.wp Tryz.prog a w K Q:=
 wp_load_mid 36 x ho g 0 hx (clsC f n).toList _ h.rangeC Tryz.underlying36 rfl (by rw [infoC,Array.length_toList,xzaj]) (by rw [Array.toArray_toList];exact hK)
theorem yzdb (x:Operand)(ho:op.op=.load 38 x)(hx:a.eval x=.pointer (some ⟨g,0,none⟩))(h:DfB w g f n vn vt)
 (hK:K (a.put op.dst (.agg (dfC f n vn vt))) w):op.wp Tryz.prog a w K Q:=
 wp_load_mid 38 x ho g 0 hx (dfC f n vn vt).toList _ h.range Tryz.underlying38 rfl (by rw [infoD,Array.length_toList,xzak]) (by rw [Array.toArray_toList];exact hK)
end
section
variable {ops : Array Oper} {rest : List Oper} {op : Oper} {a : Act} {w : World} {Q : Exit → Act → World → Prop} {g : Nat} {f : Nat → Nat} {n : Int} {vn vt : Value}
theorem xziw {P:Program}(hw:Region.wanted op (yielded ops a.tmps)=true)
 (h:∀ K:Act->World->Prop,(∀ a w,wpList P ops Q rest a w->K a w)->op.wp P a w K Q):wpList P ops Q (op::rest) a w:=
 wpList_step fun K hK=>by simp only [hw,if_true];exact h K hK
theorem xzix (x:Operand)(ho:op.op=.load 36 x)(hx:a.eval x=.pointer (some ⟨g,0,none⟩))(h:DfB w g f n vn vt)(hw:Region.wanted op (yielded ops a.tmps)=true)
 (hK:wpList Tryz.prog ops Q rest (a.put op.dst (.agg (clsC f n))) w):wpList Tryz.prog ops Q (op::rest) a w:=
 xziw hw fun _ hk=>yzda x ho hx h (hk _ _ hK)
theorem xzbc (x:Operand)(ho:op.op=.load 38 x)(hx:a.eval x=.pointer (some ⟨g,0,none⟩))(h:DfB w g f n vn vt)(hw:Region.wanted op (yielded ops a.tmps)=true)
 (hK:wpList Tryz.prog ops Q rest (a.put op.dst (.agg (dfC f n vn vt))) w):wpList Tryz.prog ops Q (op::rest) a w:=
 xziw hw fun _ hk=>yzdb x ho hx h (hk _ _ hK)
end
theorem xzds (f:Nat->Nat)(n:Int)(vn vt:Value)(w:World):∃ W1,w.alloc (.cells (dfC f n vn vt) 38)=W1/\W1.heap.size=w.heap.size+1/\Below w.heap.size w W1/\BlkIs W1 w.heap.size 38 (dfC f n vn vt):=
 ⟨_,rfl,by simp,(Below.refl _ _).alloc (Nat.le_refl _) _,BlkIs.new _ _ _⟩
end
section
open Go.RowKit
attribute [local irreducible] FreeW
set_option maxRecDepth 20000 in
set_option maxHeartbeats 8000000 in
theorem xzyk (D:Df)(v:Value)(w:World)(h:DfAt w D v)(hf:∀ b,b<256->D.of b<256):Calls Tryz.prog 25 #[v] w fun e w'=>e=.returned (.bool D.may)/\Below w.heap.size w w':=by
 obtain⟨vn,vt,rfl,hrn,hrt⟩:=h;obtain⟨W1,hbx,hsz,hb1,hx1⟩:=xzds D.of D.n vn vt w;have hd1:=DfB.of hx1;obtain⟨c256,c257,c258⟩:=hd1.cells;have hrn1:=hrn.step hb1;have hrt1:=hrt.step hb1;have hrt1':=hrt1;have HM:=zd (xznc D.of D.n hf W1);obtain⟨An,cn,rfl,hcn,hgn⟩:=hrn1;obtain⟨At,ct,rfl,hct,hgt⟩:=hrt1;have HGN:=zd hgn;have HB:=zd hb1;have hrt1':=zd hrt1';obtain⟨R,hR⟩:∃ R,R=D.may:=⟨_,rfl⟩;rw [<-hR];unfold Df.may Df.sized at hR;have HDF:=zd hd1;obtain⟨dc,hdc⟩:∃ dc,dfC D.of D.n (.slice An D.next.length cn) (.slice At D.tag.length ct)=dc:=⟨_,rfl⟩;rw [hdc]at hbx
 have hds:dc.size=259:=by rw [<-hdc];exact xzak _ _ _ _
 rw [hdc];clear hrn hrt hb1 hx1 hd1 hgn hgt hdc;generalize hmb:mayB D.of D.n=mb at*;have HM:=zd (show Calls Tryz.prog 48 #[.agg (clsC D.of D.n)] W1 (fun e w'=>e=.returned (.bool mb)/\Below W1.heap.size W1 w')from HM.out);generalize D.of=f at*;generalize D.n=n at*;generalize D.next=nx at*;generalize D.tag=tg at*;obtain⟨cl,hcl⟩:∃ cl,clsC f n=cl:=⟨_,rfl⟩
 by_cases hk:nx.length<=600
 case neg=>
  have e0:decide ((nx.length:Int)>600)=true:=by simp;omega
  have e0b:decide ((600:Int)<(nx.length:Int))=true:=by simp;omega
  have HN:=zd (show R=false by rw [hR];simp [hk]);clear hR hk
  go_enter Tryz.func25,Tryz.ntmps25
  go_wp2;go_ret;exact⟨by rw [HN.out];rfl,HB.out⟩
 have e0:decide ((nx.length:Int)>600)=false:=by simp;omega
 have e0b:decide ((600:Int)<(nx.length:Int))=false:=by simp;omega
 by_cases h1:tg.length=nx.length
 case neg=>
  have e1:((tg.length:Int) != (nx.length:Int))=true:=by simp;omega
  have HN:=zd (show R=false by rw [hR];simp [h1]);clear hR hk h1
  go_enter Tryz.func25,Tryz.ntmps25
  go_wp2;go_ret;exact⟨by rw [HN.out];rfl,HB.out⟩
 have e1:((tg.length:Int) != (nx.length:Int))=false:=by simp;omega
 have HN:=zd (show R=(mb&&(nx.all (rowOk n nx.length)&&inB 40 tg))by rw [hR];simp [h1,hk]);clear hR hk h1;have HCC:=zd (And.intro c256 (And.intro c257 c258))
 cases mb with
 |false=>
  go_enter Tryz.func25,Tryz.ntmps25
  go_wp2_with(first
   |((with_reducible refine xzix (.tmp 19) ?_ ?_ HDF.out ?_ ?_);exact rfl;exact rfl;kernel_rfl;rw [hcl])
   |(go_at_call 48;rw [<-hcl];refine HM.out.mono ?_;rintro e u1 ⟨rfl,hbu⟩;have HB2:=zd (HB.out.trans (hbu.mono HB.out.size));clear hbu))
  go_ret;exact⟨by rw [HN.out];rfl,HB2.out⟩
 |true=>
  rw [Bool.true_and]at HN
  go_enter Tryz.func25,Tryz.ntmps25
  go_wp2_with(first
   |((with_reducible refine xzix (.tmp 19) ?_ ?_ HDF.out ?_ ?_);exact rfl;exact rfl;kernel_rfl;rw [hcl])
   |(go_at_call 48;rw [<-hcl];refine HM.out.mono ?_;rintro e u1 ⟨rfl,hbu⟩;have HB2:=zd hbu;have c256':=(hbu.cell (p:=⟨w.heap.size,256,none⟩) (by show w.heap.size<_;omega)).trans HCC.out.1;have c257':=(hbu.cell (p:=⟨w.heap.size,257,none⟩) (by show w.heap.size<_;omega)).trans HCC.out.2.1;have c258':=(hbu.cell (p:=⟨w.heap.size,258,none⟩) (by show w.heap.size<_;omega)).trans HCC.out.2.2;clear hbu))
  clear hbx HDF HCC HM c256 c257 c258 hcl hds
  go_loopw [5,27] (fun _ i wr=>∃ j:Nat,i=.int .i64 j/\j<=nx.length/\Hid (wr=u1/\R=((nx.drop j).all (rowOk n nx.length)&&inB 40 tg))) (fun _ i _=>nx.length - (intOf i).toNat)
  case atStart=>exact⟨0,rfl,Nat.zero_le _,zd ⟨rfl,HN.out⟩⟩
  case round=>
   obtain⟨j,rfl,hj,HH⟩:=hrel;obtain⟨rfl,hRR⟩:=HH.out;have HH:=zd hRR;clear hRR
   by_cases hp:j<nx.length
   ·have hk1:IntKind.i64.wrap ((j:Int)+1)=((j+1:Nat):Int):=by rw [IntKind.wrap_i64];omega
    have hdl:decide ((j:Int)<(nx.length:Int))=true:=by simp;omega
    obtain⟨b,o,rfl,hlt,hg⟩:=HGN.out (by intro e;subst e;simp at hp);obtain⟨vr,hcell,hvr⟩:=hg j hp;have hcell':=(HB2.out.cell (p:=⟨b,o+j,none⟩) hlt).trans hcell;have hvr':=hvr.step HB2.out;have hd:=HH.out;rw [List.drop_eq_getElem_cons hp,List.all_cons]at hd;clear hg hcell hvr;generalize nx[j]=r at*;have HWI:=zd (xznt r vr nx.length wr hvr');obtain⟨Ar,cr,rfl,hcr,_⟩:=hvr';unfold rowOk at hd
    by_cases h1:(r.length:Int)=n
    ·have e3:((r.length:Int) != n)=false:=by simp [h1]
     cases h2:inB nx.length r with
     |true=>
      rw [h2]at HWI;have HN2:=zd (show R=((nx.drop (j+1)).all (rowOk n nx.length)&&inB 40 tg)by rw [hd,h2];simp [h1];rfl);clear h1 h2 hd
      go_wp2_with(go_at_call 49;refine HWI.out.mono ?_;rintro e u2 ⟨rfl,rfl⟩)
      exact⟨⟨j+1,rfl,hp,zd ⟨by trivial,HN2.out⟩⟩,by simp [intOf];omega⟩
     |false=>
      rw [h2]at HWI;have HN2:=zd (show R=false by rw [hd,h2];simp);clear h1 h2 hd
      go_wp2_with(go_at_call 49;refine HWI.out.mono ?_;rintro e u2 ⟨rfl,rfl⟩)
      go_ret;exact⟨by rw [HN2.out];rfl,HB.out.trans (HB2.out.mono HB.out.size)⟩
    ·have e3:((r.length:Int) != n)=true:=by simp [h1]
     have HN2:=zd (show R=false by rw [hd];simp [h1]);clear h1 hd;go_wp2;go_ret;exact⟨by rw [HN2.out];rfl,HB.out.trans (HB2.out.mono HB.out.size)⟩
   ·have hdl:decide ((j:Int)<(nx.length:Int))=false:=by simp;omega
    obtain rfl:j=nx.length:=by omega
    have HN2:=zd (show R=inB 40 tg by rw [HH.out];simp);have HW2:=zd (xznt tg _ 40 wr (hrt1'.out.step HB2.out))
    go_wp2_with(go_at_call 49;refine HW2.out.mono ?_;rintro e u2 ⟨rfl,rfl⟩)
    go_ret;exact⟨by rw [HN2.out];rfl,HB.out.trans (HB2.out.mono HB.out.size)⟩
end
section
open Go.RowKit
attribute [local irreducible] FreeW textFrame
set_option maxRecDepth 20000 in
set_option maxHeartbeats 8000000 in
theorem yzdc (D:Df)(v:Value)(w:World)(h:DfAt w D v)(hf:∀ b,b<256->D.of b<256)(a b:Nat)(ha:a<D.next.length)(hb:b<256)(hc:D.of b<D.next[a].length):
 Calls Tryz.prog 28 #[v,.int .i64 (a:Nat),.int .u8 (b:Nat)] w fun e w'=>e=.returned (.int .i64 (D.next[a][D.of b]))/\Below w.heap.size w w':=by
 obtain⟨vn,vt,rfl,hrn,hrt⟩:=h;obtain⟨W1,hbx,hsz,hb1,hx1⟩:=xzds D.of D.n vn vt w;have hd1:=DfB.of hx1;obtain⟨c256,c257,c258⟩:=hd1.cells;have c0:=hd1.ofAt hb;have hfz:=BlkIs.frozen hx1 b;obtain⟨An,cn,rfl,hcn,hgn⟩:=hrn.step hb1;obtain⟨bn,on,rfl,hlt,hg⟩:=hgn (by intro e;rw [e]at ha;simp at ha);obtain⟨vr,hcell,hvr⟩:=hg a ha;obtain⟨Ar,cr,rfl,hcr,hgr⟩:=hvr;obtain⟨br,or,rfl,hltr,hgr2⟩:=hgr (by intro e;rw [e]at hc;simp at hc);have hcell2:=hgr2 (D.of b) hc;have HB:=zd hb1;obtain⟨dc,hdc⟩:∃ dc,dfC D.of D.n (.slice (some ⟨bn,on,none⟩) D.next.length cn) vt=dc:=⟨_,rfl⟩;rw [hdc]at hbx
 have hds:dc.size=259:=by rw [<-hdc];exact xzak _ _ _ _
 rw [hdc]
 have i1:decide ((a:Int)<(D.next.length:Int))=true:=by simp;omega
 have i2:decide ((b:Int)<256)=true:=by simp;omega
 have i3:decide ((D.of b:Int)<(D.next[a].length:Int))=true:=by simp;omega
 have HF:=zd (hf b hb);clear hrn hrt hb1 hx1 hd1 hgn hg hgr hgr2 hdc hf;generalize D.next[a][D.of b]=x at*;generalize D.next[a].length=nr at*;generalize D.next.length=nn at*;generalize D.of b=c at*;generalize D.n=n at*
 go_enter Tryz.func28,Tryz.ntmps28
 go_wp2_with fail
 go_region
 go_wp2;go_ret;exact⟨rfl,HB.out.drew⟩
theorem xziy {P:Program}{o:Oper}{a:Act}{w:World}{v:Value}(t:TypeId)(x:Operand)(p:Value)(ho:o.op=.load t x)(hx:a.eval x=p)(h:(Instr.loadAt t p).run P w=.ok v w):(execOp a.eval o).run P w=.ok (.value v) w:=by
 unfold execOp;simp only [ho,hx,Sem.run_bind,Sem.run_pure,h,Result.andThen_ok]
structure MayD (D:Df):Prop where
 few:D.next.length<=600
 tags:D.tag.length=D.next.length
 cls:mayB D.of D.n=true
 rows:∀ r∈D.next,(r.length:Int)=D.n/\∀ x∈r, -1<=x/\x<(D.next.length:Int)
 tag:∀ t∈D.tag, -1<=t/\t<40
theorem inB_iff {all:Int}{l:List Int}:inB all l=true↔ ∀ x∈l, -1<=x/\x<all:=by
 unfold inB
 simp [List.all_eq_true]
theorem may_d {D:Df}(h:D.may=true):MayD D:=by
 unfold Df.may Df.sized at h;simp only [Bool.and_eq_true,decide_eq_true_eq,beq_iff_eq,List.all_eq_true]at h;obtain⟨⟨h1,h2⟩,h3,h4,h5⟩:=h;refine⟨h1,h2,h3,fun r hr=>?_,inB_iff.1 h5⟩;have:=h4 r hr;unfold rowOk at this;simp only [Bool.and_eq_true,beq_iff_eq]at this;exact⟨this.1,inB_iff.1 this.2⟩
theorem MayD.cl {D:Df}(h:MayD D)(b:Nat)(hb:b<256):(D.of b:Int)<D.n:=by
 obtain⟨h1,h2⟩:=mayB_iff.1 h.cls;rw [h2,h1 b hb];have:=yzbm D.of b;have:=xzgh D.of (show b+1<=256 by omega);omega
def Df.nxt (D:Df)(a:Int)(b:Nat):Int:=(D.next.getD a.toNat []).getD (D.of b) (-1)
def Df.goTo (D:Df)(s:ByteArray):Nat->Int
 |0=>0
 |j+1=>if D.goTo s j= -1 then -1 else D.nxt (D.goTo s j) (b8 s j)
def Df.run (D:Df)(s:ByteArray):Int:=if D.may&& !D.next.isEmpty then D.goTo s s.size else -1
theorem MayD.nxt_in {D:Df}(h:MayD D)(a:Int)(b:Nat): -1<=D.nxt a b/\D.nxt a b<(D.next.length:Int):=by
 unfold Df.nxt;rw [List.getD_eq_getElem?_getD,List.getD_eq_getElem?_getD]
 by_cases h1:a.toNat<D.next.length
 ·rw [List.getElem?_eq_getElem h1]
  by_cases h2:D.of b<(D.next[a.toNat]).length
  ·rw [Option.getD_some,List.getElem?_eq_getElem h2]
   exact(h.rows _ (List.getElem_mem h1)).2 _ (List.getElem_mem h2)
  ·rw [Option.getD_some,List.getElem?_eq_none (by omega)];simp;omega
 ·rw [List.getElem?_eq_none (l:=D.next) (i:=a.toNat) (by omega),Option.getD_none,List.getElem?_nil,Option.getD_none];omega
theorem MayD.goTo_in {D:Df}(h:MayD D)(hne:D.next≠[])(s:ByteArray):∀ j, -1<=D.goTo s j/\D.goTo s j<(D.next.length:Int)
 |0=>by have:=List.length_pos_iff.2 hne;show -1<=(0:Int)/\(0:Int)<(D.next.length:Int);omega
 |j+1=>by
  unfold Df.goTo
  split
  ·omega
  ·exact h.nxt_in _ _
theorem xzsc {D:Df}{s:ByteArray}{j:Nat}(h:D.goTo s j= -1):∀ n,D.goTo s (j+n)= -1
 |0=>h
 |n+1=>by rw [show j+(n+1)=(j+n)+1 by omega];unfold Df.goTo;rw [if_pos (xzsc h n)]
set_option maxRecDepth 20000 in
set_option maxHeartbeats 8000000 in
theorem xzli (D:Df)(s:ByteArray)(hs:s.size<=1073741824)(v:Value)(w:World)(h:DfAt w D v)(hf:∀ b,b<256->D.of b<256):
 Calls Tryz.prog 12 #[v,.string s] w fun e w'=>e=.returned (.int .i64 (D.run s))/\Below w.heap.size w w':=by
 have HAT:=zd h;obtain⟨vn,vt,rfl,hrn,hrt⟩:=h;obtain⟨W1,hbx,hsz,hb1,hx1⟩:=xzds D.of D.n vn vt w;have hd1:=DfB.of hx1;obtain⟨c256,c257,c258⟩:=hd1.cells;obtain⟨An,cn,rfl,hcn,_⟩:=hrn;have HMA:=zd (fun(u:World) (hu:Below w.heap.size w u)=>xzyk D _ u (HAT.out.step hu) hf);obtain⟨R,hR⟩:∃ R,R=D.run s:=⟨_,rfl⟩;rw [<-hR];unfold Df.run at hR;have HDF:=zd hd1;have HB:=zd hb1;obtain⟨dc,hdc⟩:∃ dc,dfC D.of D.n (.slice An D.next.length cn) vt=dc:=⟨_,rfl⟩;have HLD:=zd (fun(u:World) (hu:DfB u w.heap.size D.of D.n (.slice An D.next.length cn) vt)=>loadDf hu);have HSD:=zd (fun(hm:MayD D) (a b:Nat) (u:World) (hu:Below w.heap.size w u) (ha:a<D.next.length) (hb:b<256)=>yzdc D _ u (HAT.out.step hu) hf a b ha hb (by have h1:=hm.cl b hb;have h2:=(hm.rows _ (List.getElem_mem ha)).1;omega));rw [hdc]at hbx HLD HSD HMA
 have hds:dc.size=259:=by rw [<-hdc];exact xzak _ _ _ _
 rw [hdc];have HDC:=zd hdc;clear hrt hb1 hx1 hd1 hdc hf HAT
 cases hm:D.may with
 |false=>
  rw [hm]at HMA hR;have HN:=zd (show R= -1 by rw [hR];rfl);clear hR
  go_enter Tryz.func12,Tryz.ntmps12
  go_wp2_with(first
   |((with_reducible refine xzbc (.tmp 2) ?_ ?_ HDF.out ?_ ?_);exact rfl;exact rfl;kernel_rfl;rw [HDC.out])
   |(go_at_call 25;refine(HMA.out _ HB.out).mono ?_;rintro e u1 ⟨rfl,hbu⟩;have HB2:=zd (HB.out.trans (hbu.mono HB.out.size));clear hbu))
  go_ret;exact⟨by rw [HN.out];rfl,HB2.out⟩
 |true=>
  rw [hm]at HMA hR;have HMD:=zd (may_d hm);have HSD:=zd (HSD.out HMD.out)
  by_cases hne:D.next=[]
  ·have hl0:D.next.length=0:=by rw [hne];rfl
   have e1:decide ((D.next.length:Int)=0)=true:=by simp;exact hne
   have e1':((D.next.length:Int)==0)=true:=by simp;exact hne
   have HN:=zd (show R= -1 by rw [hR,hne];rfl);clear hR hne
   go_enter Tryz.func12,Tryz.ntmps12
   go_wp2_with(first
    |((with_reducible refine xzbc (.tmp 2) ?_ ?_ HDF.out ?_ ?_);exact rfl;exact rfl;kernel_rfl;rw [HDC.out])
    |(go_at_call 25;refine(HMA.out _ HB.out).mono ?_;rintro e u1 ⟨rfl,hbu⟩;have HB2:=zd (HB.out.trans (hbu.mono HB.out.size));have c257':=(hbu.cell (p:=⟨w.heap.size,257,none⟩) (by show w.heap.size<_;omega)).trans c257;clear hbu))
   go_ret;exact⟨by rw [HN.out];rfl,HB2.out⟩
  ·have hpos:=List.length_pos_iff.2 hne
   have e1:decide ((D.next.length:Int)=0)=false:=by simp;exact hne
   have e1':((D.next.length:Int)==0)=false:=by simp;exact hne
   have hie:D.next.isEmpty=false:=by cases hq:D.next with|nil=>exact absurd hq hne|cons a r=>rfl
   have HN:=zd (show R=D.goTo s s.size by rw [hR,hie];rfl);have HGI:=zd (HMD.out.goTo_in hne s)
   have HIX:=zd (show ∀ (j:Nat),j<s.size->∀ u:World,(Instr.index 9 (.string s) (.int .i64 (j:Nat))).run Tryz.prog u=.ok (.int .u8 (b8 s j:Nat)) u from fun j hj u=>by
    have:=xzku 9 Tryz.underlying9 s j hj u (P:=Tryz.prog)
    rw [this];unfold b8;rw [dif_pos hj])
   have HFEW:=zd (show D.next.length<=600 from HMD.out.few);clear hR hne hie
   go_enter Tryz.func12,Tryz.ntmps12
   go_wp2_with(first
    |((with_reducible refine xzbc (.tmp 2) ?_ ?_ HDF.out ?_ ?_);exact rfl;exact rfl;kernel_rfl;rw [HDC.out])
    |(go_at_call 25;refine(HMA.out _ HB.out).mono ?_;rintro e u1 ⟨rfl,hbu⟩;have HU1:=zd (show Below w.heap.size w u1/\DfB u1 w.heap.size D.of D.n (.slice An D.next.length cn) vt from⟨HB.out.trans (hbu.mono HB.out.size),HDF.out.step hbu⟩);have c257':=(hbu.cell (p:=⟨w.heap.size,257,none⟩) (by show w.heap.size<_;omega)).trans c257;clear hbu))
   clear hbx hds c256 c257 c258 c257' HMA
   go_loopw [5,6] (fun x i wr=>∃ j:Nat,i=.int .i64 j/\x=.int .i64 (D.goTo s j)/\j<=s.size/\Hid (Below w.heap.size w wr/\DfB wr w.heap.size D.of D.n (.slice An D.next.length cn) vt)) (fun _ i _=>s.size - (intOf i).toNat)
   case atStart=>exact⟨0,rfl,rfl,Nat.zero_le _,HU1⟩
   case round=>
    obtain⟨j,rfl,rfl,hj,HH⟩:=hrel;obtain⟨w2,rfl⟩:∃ w2,w2=wr:=⟨_,rfl⟩
    by_cases hp:j<s.size
    ·have hk1:IntKind.i64.wrap ((j:Int)+1)=((j+1:Nat):Int):=by rw [IntKind.wrap_i64];omega
     have hdl:decide ((j:Int)<(s.size:Int))=true:=by simp;omega
     by_cases hg:D.goTo s j= -1
     ·have e2:(D.goTo s j != -1)=false:=by simp [hg]
      have e2':decide (D.goTo s j= -1)=true:=by simp [hg]
      have HR2:=zd (show R=D.goTo s j by rw [HN.out,hg];have:=xzsc hg (s.size - j);rwa [show j+(s.size - j)=s.size by omega]at this);clear hg;go_wp2;go_ret;exact⟨by rw [HR2.out];rfl,HH.out.1⟩
     ·have e2:(D.goTo s j != -1)=true:=by simp [hg]
      have e2':decide (D.goTo s j= -1)=false:=by simp [hg]
      have hgi:=HGI.out j;obtain⟨a,hga⟩:∃ a:Nat,D.goTo s j=(a:Nat):=⟨(D.goTo s j).toNat,by omega⟩
      have hgs:D.goTo s (j+1)=D.nxt (a:Nat) (b8 s j):=by
       show(if D.goTo s j= -1 then -1 else D.nxt (D.goTo s j) (b8 s j))=_
       rw [if_neg hg,hga]
      have hal:a<D.next.length:=by omega
      have HST:=zd (fun(u:World) (hu:Below w.heap.size w u)=>show Calls Tryz.prog 28 #[.agg dc,.int .i64 (a:Nat),.int .u8 (b8 s j:Nat)] u (fun e w'=>e=.returned (.int .i64 (D.nxt a (b8 s j)))/\Below u.heap.size u w')by
       have h1:=HSD.out a (b8 s j) u hu hal (yzfh s j);have h2:=HMD.out.cl (b8 s j) (yzfh s j);have h3:=(HMD.out.rows _ (List.getElem_mem hal)).1
       have h4:D.of (b8 s j)<D.next[a].length:=by omega
       have e:D.nxt (a:Nat) (b8 s j)=D.next[a][D.of (b8 s j)]:=by
        unfold Df.nxt;rw [List.getD_eq_getElem?_getD,List.getD_eq_getElem?_getD,Int.toNat_natCast,List.getElem?_eq_getElem hal,Option.getD_some,List.getElem?_eq_getElem h4];rfl
       rw [e];exact h1)
      rw [hga]at e2 e2';rw [hga];have HGS:=zd hgs;clear hg hgi hga hgs
      go_wp2_with fail
      refine xzag 6 33 (fun u=>Hid (Below w.heap.size w u/\DfB u w.heap.size D.of D.n (.slice An D.next.length cn) vt)) (fun _ u u'=>Below u.heap.size u u')
       (fun i v u=>match i with
        |0=>v=.agg dc
        |1=>v=.int .i64 (a:Nat)
        |2=>v=.string s
        |3=>v=.int .i64 (j:Nat)
        |4=>v=.int .u8 (b8 s j:Nat)
        |5=>v=.int .i64 (D.nxt a (b8 s j))
        |_=>True) (by kernel_rfl) (by kernel_rfl) rfl (zd ⟨HH.out.1.drew,HH.out.2⟩) ?_ ?_ ?_ ?_
      ·intro i u u' hix hC hr
       exact zd ⟨hC.out.1.trans (hr.mono hC.out.1.size),hC.out.2.step hr⟩
      ·intro i j v u u' hix hj hne hv hr
       match i,hix,hne,hv with
       |0,_,_,hv=>exact hv
       |1,_,_,hv=>exact hv
       |2,_,_,hv=>exact hv
       |3,_,_,hv=>exact hv
       |4,_,_,hv=>exact hv
       |5,_,_,hv=>exact hv
       |i+6,hix,_,_=>omega
      ·intro i hix vs u hC hw oq ho
       match i,hix,hw,ho with
       |0,_,hw,ho=>
        simp only [zq,zh]at ho;subst ho;refine⟨rfl,?_⟩;clear hw;simp only [xzaa,tmpsTo];rw [xziy 38 (.tmp 2) _ rfl rfl (HLD.out u hC.out.2)];exact xzab (Below.refl _ _) rfl
       |1,_,hw,ho=>
        simp only [zq,zh]at ho;subst ho;refine⟨rfl,?_⟩;clear hw;simp only [xzaa,tmpsTo,putT,zr];go_simp;exact xzab (Below.refl _ _) rfl
       |2,_,hw,ho=>
        simp only [zq,zh]at ho;subst ho;refine⟨rfl,?_⟩;clear hw;simp only [xzaa,tmpsTo,putT,zr];go_simp;exact xzab (Below.refl _ _) rfl
       |3,_,hw,ho=>
        simp only [zq,zh]at ho;subst ho;refine⟨rfl,?_⟩;clear hw;simp only [xzaa,tmpsTo,putT,zr];go_simp;exact xzab (Below.refl _ _) rfl
       |4,_,hw,ho=>
        have e2:vs 2=.string s:=hw 2 (by omega) (by kernel_rfl);have e3:vs 3=.int .i64 (j:Nat):=hw 3 (by omega) (by kernel_rfl);simp only [zq,zh]at ho;subst ho;refine⟨rfl,?_⟩;clear hw;simp only [xzaa,tmpsTo,putT,zr];rw [e2,e3];clear e2 e3;have hix:=HIX.out j hp u;go_simp;exact xzab (Below.refl _ _) rfl
       |5,_,hw,ho=>
        have e0:vs 0=.agg dc:=hw 0 (by omega) (by kernel_rfl);have e1:vs 1=.int .i64 (a:Nat):=hw 1 (by omega) (by kernel_rfl);have e4:vs 4=.int .u8 (b8 s j:Nat):=hw 4 (by omega) (by kernel_rfl);simp only [zq,zh]at ho;subst ho;refine⟨rfl,?_⟩;clear hw;simp only [xzaa,tmpsTo,putT,zr];rw [e0,e1,e4];clear e0 e1 e4;go_simp;refine xzbd ((HST.out u hC.out.1).mono ?_);rintro e u' ⟨rfl,hbu⟩;exact⟨_,rfl,hbu,rfl⟩
       |i+6,hix,_,_=>omega
      intro vs1 u hC hV;have h5:vs1 5=.int .i64 (D.nxt a (b8 s j)):=hV 5 (by omega);clear hV;simp only [xzaa,tmpsTo,putT,zr,List.drop_succ_cons,List.drop_zero];rw [h5];clear h5;generalize vs1 0=q0;generalize vs1 1=q1;generalize vs1 2=q2;generalize vs1 3=q3;generalize vs1 4=q4;go_wp2;exact⟨⟨j+1,rfl,by rw [HGS.out],hp,hC⟩,by simp [intOf];omega⟩
    ·have hdl:decide ((j:Int)<(s.size:Int))=false:=by simp;omega
     obtain rfl:j=s.size:=by omega
     have HR2:=zd (show R=D.goTo s s.size from HN.out);go_wp2;go_ret;exact⟨by rw [HR2.out];rfl,HH.out.1⟩
end
section
open Go.RowKit
theorem oneX_in (L:List (List Int))(x:List Int): -1<=(oneX L x).1/\(oneX L x).1<((oneX L x).2.length:Int)/\L.length<=(oneX L x).2.length:=by
 unfold oneX
 split
 ·refine⟨Int.le_refl _,?_,Nat.le_refl _⟩
  show(-1:Int)<(L.length:Int);omega
 ·split
  ·rename_i i hi
   have hm:=List.mem_of_find?_eq_some hi;have:=List.mem_range.1 hm;refine⟨?_,?_,Nat.le_refl _⟩
   ·show(-1:Int)<=(i:Int);omega
   ·show((i:Nat):Int)<(L.length:Int);omega
  ·refine⟨?_,?_,?_⟩
   ·show(-1:Int)<=(L.length:Int);omega
   ·show((L.length:Nat):Int)<((L++[x]).length:Int);rw [List.length_append];simp;omega
   ·show L.length<=(L++[x]).length;rw [List.length_append];omega
theorem xzyl (N:Nf)(lb:Nat->Nat)(a:Nat)(L:List (List Int)):∀ k,∀ x∈(rowTo N lb a L k).1, -1<=x/\x<((rowTo N lb a L k).2.length:Int)
 |0,x,hx=>by cases hx
 |k+1,x,hx=>by
  have ho:=oneX_in (rowTo N lb a L k).2 (stepX N (rowTo N lb a L k).2 a (lb k))
  rcases List.mem_append.1 (show x∈(rowTo N lb a L k).1++[(oneX (rowTo N lb a L k).2 (stepX N (rowTo N lb a L k).2 a (lb k))).1]from hx)with h|h
  ·have:=xzyl N lb a L k x h
   refine⟨this.1,?_⟩
   show x<((oneX (rowTo N lb a L k).2 (stepX N (rowTo N lb a L k).2 a (lb k))).2.length:Int)
   omega
  ·rw [List.mem_singleton]at h
   subst h;exact⟨ho.1,ho.2.1⟩
theorem xzym (N:Nf)(lb:Nat->Nat)(C:Nat):∀ n L R,subTo N lb C n=some (L,R)->∀ r∈R,∀ x∈r, -1<=x/\x<(L.length:Int)
 |0,L,R,h=>by
  simp only [subTo,zh,Prod.mk.injEq]at h;obtain⟨rfl,rfl⟩:=h;intro r hr;cases hr
 |n+1,L,R,h=>by
  simp only [subTo]at h
  cases hs:subTo N lb C n with
  |none=>rw [hs]at h;cases h
  |some p=>
   obtain⟨L0,R0⟩:=p;rw [hs]at h;have ih:=xzym N lb C n L0 R0 hs;simp only at h
   split at h
   ·split at h
    ·cases h
    ·simp only [zh,Prod.mk.injEq]at h
     obtain⟨rfl,rfl⟩:=h;obtain⟨lp,hp⟩:=xzct N lb n L0 C;intro r hr x hx
     rcases List.mem_append.1 hr with h1|h1
     ·have:=ih r h1 x hx
      have hl:L0.length<=(rowTo N lb n L0 C).2.length:=by rw [hp,List.length_append];omega
      omega
     ·rw [List.mem_singleton]at h1;subst h1;exact xzyl N lb n L0 C x hx
   ·simp only [zh,Prod.mk.injEq]at h
    obtain⟨rfl,rfl⟩:=h;exact ih
theorem yzhj {N:Nf}(hR:∀ q,0<=N.ruleAt q/\N.ruleAt q<40)(f:Nat->Bool)(n:Nat): -1<=tagTo N f n/\tagTo N f n<40:=by
 rw [<-xzfu N f n]
 rcases xzqf N hR (((List.range n).filter f).map fun(q:Nat)=>(q:Int))with⟨h1,_⟩|⟨h1,h2,_,_⟩
 ·rw [h1];decide
 ·omega
theorem xzyn {N:Nf}(hmi:MayIs N){L R:List (List Int)}(h:subZ N (lbN N) (clN N)=some (L,R)):(⟨ofN N,(clN N:Nat),R,tagsL N L⟩:Df).may=true:=by
 obtain⟨h1,h2,h3⟩:=xzbn _ _ _ _ _ _ h;have hr:=xziv _ _ _ _ _ _ h;have hi:=xzym _ _ _ _ _ _ h
 have hRL:R.length=L.length:=by omega
 unfold Df.may Df.sized;simp only [Bool.and_eq_true,decide_eq_true_eq,beq_iff_eq,List.all_eq_true];refine⟨⟨by omega,by rw [xzsb];omega⟩,xzox _,fun r hr'=>?_,?_⟩
 ·unfold rowOk
  simp only [Bool.and_eq_true,beq_iff_eq];refine⟨by rw [hr r hr'],inB_iff.2 fun x hx=>?_⟩;have:=hi r hr' x hx;omega
 ·rw [inB_iff]
  intro x hx;unfold tagsL at hx;obtain⟨i,_,rfl⟩:=List.mem_map.1 hx
  split
  ·exact hmi.empty
  ·exact yzhj hmi.ruleAt _ _
end
end Go.Proofs.YtgbljnnmhmlifaaGreatDoor
