/-
 THE SUBSETS AS AN AUTOMATON: rows of what the maker holds; what dfa.Subset answers, by plain functions. No condition but those of each theorem.
-/
import Derived.Deep.Strs
import Derived.ChangeMaps5
import Derived.RangeFuncWrites
import Derived.Test.YtdjpphjpnkfeiaaGreatDoorQG12
import Derived.Test.YtdjpphjpnkfeiaaGreatDoorQG13
import Derived.Test.YtdjpphjpnkfeiaaGreatDoorQG11
import Derived.Test.YtdjpphjpnkfeiaaGreatDoorQG06
import Derived.Test.YtdjpphjpnkfeiaaGreatDoorQG07
import Derived.Test.YtdjpphjpnkfeiaaGreatDoorQG04
namespace Go.Proofs.YtdjpphjpnkfeiaaGreatDoor
section
open Go.RowKit
theorem rowsD {W:World}{B C:Nat}{v:Value}{L:List (List Int)}{bs:Nat->Nat}(h:W.ownsRow B 26 1 v L.length (hdrs bs C L.length))(hr:∀ (i:Nat) (h:i<L.length),BlkF W (bs i) 3 C (intF L[i]))(hl:∀ r∈L,r.length=C)(hC:C<=9223372036854775807):RowsI W L v:=by
 rcases h.2 with⟨rfl,h0⟩|⟨g,cap,cur,rfl,h1,h2,h3,h4,_⟩
 ·obtain rfl:=List.eq_nil_of_length_eq_zero h0
  exact⟨none,0,rfl,⟨by simp,by simp⟩,fun hne=>absurd rfl hne⟩
 ·refine⟨_,cap,rfl,⟨h3,by unfold maxLen at h4;omega⟩,fun _=>⟨g,0,rfl,(Array.getElem?_eq_some_iff.1 h2).1,fun i hi=>⟨.slice (some ⟨bs i,0,none⟩) C C,?_,?_⟩⟩⟩
  ·have:=World.ownsRow.cells (g:=g) h rfl i (.slice (some ⟨bs i,0,none⟩) C C) (by unfold hdrs;rw [List.getElem?_map,List.getElem?_range hi];rfl)
   rw [Addr.add_lit]at this;exact this
  ·have hli:L[i].length=C:=hl _ (List.getElem_mem hi)
   refine⟨some ⟨bs i,0,none⟩,C,by rw [hli],⟨by omega,hC⟩,fun _=>⟨bs i,0,rfl,BlkIs.lt (hr i hi),fun j hj=>?_⟩⟩;rw [Nat.zero_add,(hr i hi).cell (by omega)];unfold intF;rw [List.getD_eq_getElem?_getD,List.getElem?_eq_getElem hj];rfl
theorem xzhp (N:Nf)(lb:Nat->Nat)(C:Nat):∀ n L R,subTo N lb C n=some (L,R)->∀ r∈R,r.length=C
 |0,L,R,h=>by
  simp only [subTo,zh,Prod.mk.injEq]at h;obtain⟨rfl,rfl⟩:=h;intro r hr;cases hr
 |n+1,L,R,h=>by
  simp only [subTo]at h
  cases hs:subTo N lb C n with
  |none=>rw [hs]at h;cases h
  |some p=>
   obtain⟨L0,R0⟩:=p;rw [hs]at h;have ih:=xzhp N lb C n L0 R0 hs;simp only at h
   split at h
   ·split at h
    ·cases h
    ·simp only [zh,Prod.mk.injEq]at h
     obtain⟨rfl,rfl⟩:=h;intro r hr
     rcases List.mem_append.1 hr with h1|h1
     ·exact ih r h1
     ·rw [List.mem_singleton]at h1;subst h1;exact xzkg _ _ _ _ _
   ·simp only [zh,Prod.mk.injEq]at h
    obtain⟨rfl,rfl⟩:=h;exact ih
def dfNone:Df:=⟨fun _=>0,0,[],[]⟩
def subAns (N:Nf):Df×Int:=if N.may then(match subZ N (lbN N) (clN N)with|none=>(dfNone,4)|some (L,R)=>(⟨ofN N,(clN N:Nat),R,tagsL N L⟩,0))else(dfNone,1)
theorem xzkh (W:World):DfAt W dfNone (.agg df0):=⟨.slice none 0 0,.slice none 0 0,rfl,⟨none,0,rfl,⟨Nat.le_refl _,by decide⟩,fun h=>absurd rfl h⟩,IntsV.nil W⟩
theorem sm_df {N:Nf}{w W:World}{ρ:Nat->Nat}{L R:List (List Int)}{fol tak:List (Nat->Bool)}{V:MkV}{bs:Nat->Nat}(h:SM (spN N w) ρ ⟨L,L,R,tagsL N L,fol,tak⟩ V bs W)(hz:subZ N (lbN N) (clN N)=some (L,R)):
 DfB W (w.heap.size+2) (ofN N) (clN N:Nat) V.next V.tag/\(∃ A c,V.next=.slice A R.length c)/\(∃ A c,V.tag=.slice A (tagsL N L).length c)/\∀ W':World,(∀ k,w.heap.size<=k->W'.heap[k]? =W.heap[k]?)->RowsI W' R V.next/\IntsV W' (tagsL N L) V.tag:=by
 have F: ¬ False:=fun h=>h
 have h1:=DfB.ofMk (h.blk F)
 have key:∀ W':World,(∀ k,w.heap.size<=k->W'.heap[k]? =W.heap[k]?)->RowsI W' R V.next/\IntsV W' (tagsL N L) V.tag:=fun W' hk=>
  ⟨rowsD (xzau (h.nx F) fun k hk'=>hk k (World.ownsRow.lt (h.nx F) k hk').1) (fun i hi=>(hk _ (h.rlow i hi)).trans (h.rw i hi F)) (xzhp _ _ _ _ _ _ hz) (show clN N<=_ by have:=xzzo N;omega),
   RowI.ints (xzbd (h.tg F) fun k hk'=>hk k (World.ownsRow.lt (h.tg F) k hk').1)⟩
 obtain⟨h2,h3⟩:=key W fun _ _=>rfl
 obtain⟨hv1,hv2,_⟩:=h.vals;rw [show V.of=ofN N from hv1,show V.n=clN N from hv2]at h1;exact⟨h1,(by obtain⟨A,c,e,_⟩:=h2;exact⟨A,c,e⟩),(by obtain⟨A,c,e,_⟩:=h3;exact⟨A,c,e⟩),key⟩
end
section
open Go.RowKit
attribute [local irreducible] FreeW textFrame
theorem xzch {fn:Func}{p q:Tmp}{ty:TypeId}{tmps:Array Value}{P:Program}{w w':World}{a:Addr}{v:Value}(h:fn.results=#[.cell p ty,.tmp q])(hp:tmps.getD p undef=.pointer (some a))(hl:(loadVar ty a).run P w=.ok v w'):
 (results fn tmps).run P w=.ok (.tuple #[v,tmps.getD q undef]) w':=by
 rw [results_cell_tmp h,hp]
 simp [asAddr,hl,Result.andThen]
end
section
open Go.RowKit
attribute [local irreducible] FreeW
def inB (many:Int)(l:List Int):Bool:=l.all fun n=>decide (-1<=n)&&decide (n<many)
set_option maxHeartbeats 2000000 in
theorem xzly (l:List Int)(v:Value)(all:Int)(w:World)(hv:IntsV w l v):Calls Tryz.prog 66 #[v,.int .i64 all] w fun e w'=>e=.returned (.bool (inB all l))/\w'=w:=by
 obtain⟨A,c,rfl,hc,hs⟩:=hv;have HS:=zd hs;obtain⟨R,hR⟩:∃ R,R=inB all l:=⟨_,rfl⟩;rw [<-hR];have HR:=zd hR;clear hs hR
 go_enter Tryz.func66,Tryz.ntmps66
 go_wp2
 go_loopw [6,9] (fun _ i wr=>∃ (j:Nat),i=.int .i64 j/\j<=l.length/\Hid (wr=w/\R=inB all (l.drop j))) (fun _ i _=>l.length - (intOf i).toNat)
 case atStart=>exact⟨0,rfl,Nat.zero_le _,zd ⟨rfl,HR.out⟩⟩
 case round=>
  obtain⟨j,rfl,hj,HH⟩:=hrel;obtain⟨rfl,hRR⟩:=HH.out;have HH:=zd hRR;clear hRR
  by_cases hp:j<l.length
  ·have hk1:IntKind.i64.wrap ((j:Int)+1)=((j+1:Nat):Int):=by rw [IntKind.wrap_i64];omega
   have hdl:decide ((j:Int)<(l.length:Int))=true:=by simp;omega
   obtain⟨b,o,rfl,hlt,hg⟩:=HS.out (by intro e;subst e;simp at hp);have hcell:=hg j hp;have hd:=HH.out;rw [List.drop_eq_getElem_cons hp]at hd;unfold inB at hd;rw [List.all_cons]at hd;clear hg;generalize l[j]=p at*;have HD:=zd hd;clear hd
   by_cases h1:p< -1
   ·have e1:decide (p< -1)=true:=by simp;omega
    have HN:=zd (show R=false by rw [HD.out];simp;omega);clear h1;go_wp2;go_ret;exact⟨by rw [HN.out];rfl,rfl⟩
   ·have e1:decide (p< -1)=false:=by simp;omega
    by_cases h2:p<all
    ·have e2:decide (p>=all)=false:=by simp;omega
     have e2b:decide (all<=p)=false:=by simp;omega
     have HN:=zd (show R=inB all (l.drop (j+1))by rw [HD.out];unfold inB;simp [h2];omega);clear h1 h2;go_wp2;exact⟨⟨j+1,rfl,hp,zd ⟨by trivial,HN.out⟩⟩,by simp [intOf];omega⟩
    ·have e2:decide (p>=all)=true:=by simp;omega
     have e2b:decide (all<=p)=true:=by simp;omega
     have HN:=zd (show R=false by rw [HD.out];simp [h2]);clear h1 h2;go_wp2;go_ret;exact⟨by rw [HN.out];rfl,rfl⟩
  ·have hdl:decide ((j:Int)<(l.length:Int))=false:=by simp;omega
   obtain rfl:j=l.length:=by omega
   have HN:=zd (show R=true by rw [HH.out];unfold inB;simp);go_wp2;go_ret;exact⟨by rw [HN.out];rfl,rfl⟩
def Df.sized (D:Df):Bool:=decide (D.next.length<=600)&&(D.tag.length==D.next.length)
def rowOk (n:Int)(all:Int)(r:List Int):Bool:=((r.length:Int)==n)&&inB all r
def Df.may (D:Df):Bool:=D.sized&&(mayB D.of D.n&&(D.next.all (rowOk D.n D.next.length)&&inB 40 D.tag))
section
variable {op : Oper} {a : Act} {w : World} {K : Act → World → Prop} {Q : Exit → Act → World → Prop} {g : Nat} {f : Nat → Nat} {n : Int} {vn vt : Value}
theorem xzzx (x:Operand)(ho:op.op=.load 33 x)(hx:a.eval x=.pointer (some ⟨g,0,none⟩))(h:DfB w g f n vn vt)
 (hK:K (a.put op.dst (.agg (clsC f n))) w):op.wp Tryz.prog a w K Q:=
 wp_load_mid 33 x ho g 0 hx (clsC f n).toList _ h.rangeC Tryz.underlying33 rfl (by rw [infoC,Array.length_toList,xzaj]) (by rw [Array.toArray_toList];exact hK)
theorem xzzy (x:Operand)(ho:op.op=.load 35 x)(hx:a.eval x=.pointer (some ⟨g,0,none⟩))(h:DfB w g f n vn vt)
 (hK:K (a.put op.dst (.agg (dfC f n vn vt))) w):op.wp Tryz.prog a w K Q:=
 wp_load_mid 35 x ho g 0 hx (dfC f n vn vt).toList _ h.range Tryz.underlying35 rfl (by rw [infoD,Array.length_toList,xzac]) (by rw [Array.toArray_toList];exact hK)
theorem xzzz (x:Operand)(ho:op.op=.load 28 x)(hx:a.eval x=.pointer (some ⟨g,0,none⟩))(h:DfB w g f n vn vt)
 (hK:K (a.put op.dst (.agg (dfC f n vn vt))) w):op.wp Tryz.prog a w K Q:=
 wp_load_mid 28 x ho g 0 hx (dfC f n vn vt).toList _ h.range Tryz.underlying28 rfl (by rw [infoDr,Array.length_toList,xzac]) (by rw [Array.toArray_toList];exact hK)
end
section
variable {ops : Array Oper} {rest : List Oper} {op : Oper} {a : Act} {w : World} {Q : Exit → Act → World → Prop} {g : Nat} {f : Nat → Nat} {n : Int} {vn vt : Value}
theorem xzek {P:Program}(hw:Region.wanted op (yielded ops a.tmps)=true)
 (h:∀ K:Act->World->Prop,(∀ a w,wpList P ops Q rest a w->K a w)->op.wp P a w K Q):wpList P ops Q (op::rest) a w:=
 wpList_step fun K hK=>by simp only [hw,if_true];exact h K hK
theorem xzhq (x:Operand)(ho:op.op=.load 33 x)(hx:a.eval x=.pointer (some ⟨g,0,none⟩))(h:DfB w g f n vn vt)(hw:Region.wanted op (yielded ops a.tmps)=true)
 (hK:wpList Tryz.prog ops Q rest (a.put op.dst (.agg (clsC f n))) w):wpList Tryz.prog ops Q (op::rest) a w:=
 xzek hw fun _ hk=>xzzx x ho hx h (hk _ _ hK)
theorem xzbt (x:Operand)(ho:op.op=.load 35 x)(hx:a.eval x=.pointer (some ⟨g,0,none⟩))(h:DfB w g f n vn vt)(hw:Region.wanted op (yielded ops a.tmps)=true)
 (hK:wpList Tryz.prog ops Q rest (a.put op.dst (.agg (dfC f n vn vt))) w):wpList Tryz.prog ops Q (op::rest) a w:=
 xzek hw fun _ hk=>xzzy x ho hx h (hk _ _ hK)
theorem xzev (x:Operand)(ho:op.op=.load 28 x)(hx:a.eval x=.pointer (some ⟨g,0,none⟩))(h:DfB w g f n vn vt)(hw:Region.wanted op (yielded ops a.tmps)=true)
 (hK:wpList Tryz.prog ops Q rest (a.put op.dst (.agg (dfC f n vn vt))) w):wpList Tryz.prog ops Q (op::rest) a w:=
 xzek hw fun _ hk=>xzzz x ho hx h (hk _ _ hK)
end
theorem xzat (f:Nat->Nat)(n:Int)(vn vt:Value)(w:World):∃ W1,w.alloc (.cells (dfC f n vn vt) 35)=W1/\W1.heap.size=w.heap.size+1/\Below w.heap.size w W1/\BlkIs W1 w.heap.size 35 (dfC f n vn vt):=
 ⟨_,rfl,by simp,(Below.refl _ _).alloc (Nat.le_refl _) _,BlkIs.new _ _ _⟩
theorem xzbu (f:Nat->Nat)(n:Int)(vn vt:Value)(w:World):∃ W1,w.alloc (.cells (dfC f n vn vt) 28)=W1/\W1.heap.size=w.heap.size+1/\Below w.heap.size w W1/\BlkIs W1 w.heap.size 28 (dfC f n vn vt):=
 ⟨_,rfl,by simp,(Below.refl _ _).alloc (Nat.le_refl _) _,BlkIs.new _ _ _⟩
end
section
open Go.RowKit
attribute [local irreducible] FreeW
set_option maxRecDepth 20000 in
set_option maxHeartbeats 8000000 in
theorem xzns (D:Df)(v:Value)(w:World)(h:DfAt w D v)(hf:∀ b,b<256->D.of b<256):Calls Tryz.prog 47 #[v] w fun e w'=>e=.returned (.bool D.may)/\Below w.heap.size w w':=by
 obtain⟨vn,vt,rfl,hrn,hrt⟩:=h;obtain⟨W1,hbx,hsz,hb1,hx1⟩:=xzat D.of D.n vn vt w;have hd1:=DfB.of hx1;obtain⟨c256,c257,c258⟩:=hd1.cells;have hrn1:=hrn.step hb1;have hrt1:=hrt.step hb1;have hrt1':=hrt1;have HM:=zd (xzli D.of D.n hf W1);obtain⟨An,cn,rfl,hcn,hgn⟩:=hrn1;obtain⟨At,ct,rfl,hct,hgt⟩:=hrt1;have HGN:=zd hgn;have HB:=zd hb1;have hrt1':=zd hrt1';obtain⟨R,hR⟩:∃ R,R=D.may:=⟨_,rfl⟩;rw [<-hR];unfold Df.may Df.sized at hR;have HDF:=zd hd1;obtain⟨dc,hdc⟩:∃ dc,dfC D.of D.n (.slice An D.next.length cn) (.slice At D.tag.length ct)=dc:=⟨_,rfl⟩;rw [hdc]at hbx
 have hds:dc.size=259:=by rw [<-hdc];exact xzac _ _ _ _
 rw [hdc];clear hrn hrt hb1 hx1 hd1 hgn hgt hdc;generalize hmb:mayB D.of D.n=mb at*;have HM:=zd (show Calls Tryz.prog 65 #[.agg (clsC D.of D.n)] W1 (fun e w'=>e=.returned (.bool mb)/\Below W1.heap.size W1 w')from HM.out);generalize D.of=f at*;generalize D.n=n at*;generalize D.next=nx at*;generalize D.tag=tg at*;obtain⟨cl,hcl⟩:∃ cl,clsC f n=cl:=⟨_,rfl⟩
 by_cases hk:nx.length<=600
 case neg=>
  have e0:decide ((nx.length:Int)>600)=true:=by simp;omega
  have e0b:decide ((600:Int)<(nx.length:Int))=true:=by simp;omega
  have HN:=zd (show R=false by rw [hR];simp [hk]);clear hR hk
  go_enter Tryz.func47,Tryz.ntmps47
  go_wp2;go_ret;exact⟨by rw [HN.out];rfl,HB.out⟩
 have e0:decide ((nx.length:Int)>600)=false:=by simp;omega
 have e0b:decide ((600:Int)<(nx.length:Int))=false:=by simp;omega
 by_cases h1:tg.length=nx.length
 case neg=>
  have e1:((tg.length:Int) != (nx.length:Int))=true:=by simp;omega
  have HN:=zd (show R=false by rw [hR];simp [h1]);clear hR hk h1
  go_enter Tryz.func47,Tryz.ntmps47
  go_wp2;go_ret;exact⟨by rw [HN.out];rfl,HB.out⟩
 have e1:((tg.length:Int) != (nx.length:Int))=false:=by simp;omega
 have HN:=zd (show R=(mb&&(nx.all (rowOk n nx.length)&&inB 40 tg))by rw [hR];simp [h1,hk]);clear hR hk h1;have HCC:=zd (And.intro c256 (And.intro c257 c258))
 cases mb with
 |false=>
  go_enter Tryz.func47,Tryz.ntmps47
  go_wp2_with(first
   |((with_reducible refine xzhq (.tmp 19) ?_ ?_ HDF.out ?_ ?_);exact rfl;exact rfl;kernel_rfl;rw [hcl])
   |(go_at_call 65;rw [<-hcl];refine HM.out.mono ?_;rintro e u1 ⟨rfl,hbu⟩;have HB2:=zd (HB.out.trans (hbu.mono HB.out.size));clear hbu))
  go_ret;exact⟨by rw [HN.out];rfl,HB2.out⟩
 |true=>
  rw [Bool.true_and]at HN
  go_enter Tryz.func47,Tryz.ntmps47
  go_wp2_with(first
   |((with_reducible refine xzhq (.tmp 19) ?_ ?_ HDF.out ?_ ?_);exact rfl;exact rfl;kernel_rfl;rw [hcl])
   |(go_at_call 65;rw [<-hcl];refine HM.out.mono ?_;rintro e u1 ⟨rfl,hbu⟩;have HB2:=zd hbu;have c256':=(hbu.cell (p:=⟨w.heap.size,256,none⟩) (by show w.heap.size<_;omega)).trans HCC.out.1;have c257':=(hbu.cell (p:=⟨w.heap.size,257,none⟩) (by show w.heap.size<_;omega)).trans HCC.out.2.1;have c258':=(hbu.cell (p:=⟨w.heap.size,258,none⟩) (by show w.heap.size<_;omega)).trans HCC.out.2.2;clear hbu))
  clear hbx HDF HCC HM c256 c257 c258 hcl hds
  go_loopw [5,27] (fun _ i wr=>∃ j:Nat,i=.int .i64 j/\j<=nx.length/\Hid (wr=u1/\R=((nx.drop j).all (rowOk n nx.length)&&inB 40 tg))) (fun _ i _=>nx.length - (intOf i).toNat)
  case atStart=>exact⟨0,rfl,Nat.zero_le _,zd ⟨rfl,HN.out⟩⟩
  case round=>
   obtain⟨j,rfl,hj,HH⟩:=hrel;obtain⟨rfl,hRR⟩:=HH.out;have HH:=zd hRR;clear hRR
   by_cases hp:j<nx.length
   ·have hk1:IntKind.i64.wrap ((j:Int)+1)=((j+1:Nat):Int):=by rw [IntKind.wrap_i64];omega
    have hdl:decide ((j:Int)<(nx.length:Int))=true:=by simp;omega
    obtain⟨b,o,rfl,hlt,hg⟩:=HGN.out (by intro e;subst e;simp at hp);obtain⟨vr,hcell,hvr⟩:=hg j hp;have hcell':=(HB2.out.cell (p:=⟨b,o+j,none⟩) hlt).trans hcell;have hvr':=hvr.step HB2.out;have hd:=HH.out;rw [List.drop_eq_getElem_cons hp,List.all_cons]at hd;clear hg hcell hvr;generalize nx[j]=r at*;have HWI:=zd (xzly r vr nx.length wr hvr');obtain⟨Ar,cr,rfl,hcr,_⟩:=hvr';unfold rowOk at hd
    by_cases h1:(r.length:Int)=n
    ·have e3:((r.length:Int) != n)=false:=by simp [h1]
     cases h2:inB nx.length r with
     |true=>
      rw [h2]at HWI;have HN2:=zd (show R=((nx.drop (j+1)).all (rowOk n nx.length)&&inB 40 tg)by rw [hd,h2];simp [h1];rfl);clear h1 h2 hd
      go_wp2_with(go_at_call 66;refine HWI.out.mono ?_;rintro e u2 ⟨rfl,rfl⟩)
      exact⟨⟨j+1,rfl,hp,zd ⟨by trivial,HN2.out⟩⟩,by simp [intOf];omega⟩
     |false=>
      rw [h2]at HWI;have HN2:=zd (show R=false by rw [hd,h2];simp);clear h1 h2 hd
      go_wp2_with(go_at_call 66;refine HWI.out.mono ?_;rintro e u2 ⟨rfl,rfl⟩)
      go_ret;exact⟨by rw [HN2.out];rfl,HB.out.trans (HB2.out.mono HB.out.size)⟩
    ·have e3:((r.length:Int) != n)=true:=by simp [h1]
     have HN2:=zd (show R=false by rw [hd];simp [h1]);clear h1 hd;go_wp2;go_ret;exact⟨by rw [HN2.out];rfl,HB.out.trans (HB2.out.mono HB.out.size)⟩
   ·have hdl:decide ((j:Int)<(nx.length:Int))=false:=by simp;omega
    obtain rfl:j=nx.length:=by omega
    have HN2:=zd (show R=inB 40 tg by rw [HH.out];simp);have HW2:=zd (xzly tg _ 40 wr (hrt1'.out.step HB2.out))
    go_wp2_with(go_at_call 66;refine HW2.out.mono ?_;rintro e u2 ⟨rfl,rfl⟩)
    go_ret;exact⟨by rw [HN2.out];rfl,HB.out.trans (HB2.out.mono HB.out.size)⟩
end
section
open Go.RowKit
attribute [local irreducible] FreeW textFrame
theorem xzah {P:Program}{o:Oper}{a:Act}{w:World}{v:Value}(t:TypeId)(x:Operand)(p:Value)(ho:o.op=.load t x)(hx:a.eval x=p)(h:(Instr.loadAt t p).run P w=.ok v w):(execOp a.eval o).run P w=.ok (.value v) w:=by
 unfold execOp;simp only [ho,hx,Sem.run_bind,Sem.run_pure,h,Result.andThen_ok]
structure MayD (D:Df):Prop where
 few:D.next.length<=600
 tags:D.tag.length=D.next.length
 cls:mayB D.of D.n=true
 rows:∀ r∈D.next,(r.length:Int)=D.n/\∀ x∈r, -1<=x/\x<(D.next.length:Int)
 tag:∀ t∈D.tag, -1<=t/\t<40
theorem inB_iff {all:Int}{l:List Int}:inB all l=true↔ ∀ x∈l, -1<=x/\x<all:=by
 unfold inB
 simp [List.all_eq_true]
theorem xzlz {D:Df}(h:D.may=true):MayD D:=by
 unfold Df.may Df.sized at h;simp only [Bool.and_eq_true,decide_eq_true_eq,beq_iff_eq,List.all_eq_true]at h;obtain⟨⟨h1,h2⟩,h3,h4,h5⟩:=h;refine⟨h1,h2,h3,fun r hr=>?_,inB_iff.1 h5⟩;have:=h4 r hr;unfold rowOk at this;simp only [Bool.and_eq_true,beq_iff_eq]at this;exact⟨this.1,inB_iff.1 this.2⟩
theorem MayD.cl {D:Df}(h:MayD D)(b:Nat)(hb:b<256):(D.of b:Int)<D.n:=by
 obtain⟨h1,h2⟩:=mayB_iff.1 h.cls;rw [h2,h1 b hb];have:=yzdl D.of b;have:=xzgy D.of (show b+1<=256 by omega);omega
def Df.nxt (D:Df)(a:Int)(b:Nat):Int:=(D.next.getD a.toNat []).getD (D.of b) (-1)
def Df.goTo (D:Df)(s:ByteArray):Nat->Int
 |0=>0
 |j+1=>if D.goTo s j= -1 then -1 else D.nxt (D.goTo s j) (b8 s j)
def Df.run (D:Df)(s:ByteArray):Int:=if D.may&& !D.next.isEmpty then D.goTo s s.size else -1
theorem MayD.nxt_in {D:Df}(h:MayD D)(a:Int)(b:Nat): -1<=D.nxt a b/\D.nxt a b<(D.next.length:Int):=by
 unfold Df.nxt;rw [List.getD_eq_getElem?_getD,List.getD_eq_getElem?_getD]
 by_cases h1:a.toNat<D.next.length
 ·rw [List.getElem?_eq_getElem h1]
  by_cases h2:D.of b<(D.next[a.toNat]).length
  ·rw [Option.getD_some,List.getElem?_eq_getElem h2]
   exact(h.rows _ (List.getElem_mem h1)).2 _ (List.getElem_mem h2)
  ·rw [Option.getD_some,List.getElem?_eq_none (by omega)];simp;omega
 ·rw [List.getElem?_eq_none (l:=D.next) (i:=a.toNat) (by omega),Option.getD_none,List.getElem?_nil,Option.getD_none];omega
end
section
open Go.RowKit
attribute [local irreducible] FreeW
theorem put_dx (f:Nat->Nat)(n:Int)(vn vt v:Value):putV (dfF f n vn vt) 257 v=dfF f n v vt:=by
 funext i;unfold putV;by_cases h:i=257
 ·subst h;rfl
 ·rw [if_neg h];unfold dfF;simp only [if_neg h]
theorem put_dt (f:Nat->Nat)(n:Int)(vn vt v:Value):∀ i,i<259->putV (dfF f n vn vt) 258 v i=dfF f n vn v i:=by
 intro i hi;unfold putV;by_cases h:i=258
 ·subst h;rfl
 ·rw [if_neg h];unfold dfF
  by_cases h1:i<256
  ·simp only [if_pos h1]
  ·by_cases h2:i=256
   ·simp only [if_neg h1,if_pos h2]
   ·have h3:i=257:=by omega
    simp only [if_neg h1,if_neg h2,if_pos h3]
section
variable {W : World} {g : Nat} {t : TypeId} {f : Nat → Nat} {n : Int} {vn vt : Value}
theorem blk_dx (h:BlkIs W g t (dfC f n vn vt))(v:Value):BlkIs (W.setCell ⟨g,257,none⟩ v) g t (dfC f n v vt):=by
 have:=BlkF.put (h:BlkF W g t 259 (dfF f n vn vt)) 257 v;rw [put_dx]at this;exact this
theorem blk_dt (h:BlkIs W g t (dfC f n vn vt))(v:Value):BlkIs (W.setCell ⟨g,258,none⟩ v) g t (dfC f n vn v):=by
 have:=BlkF.put (h:BlkF W g t 259 (dfF f n vn vt)) 258 v;unfold BlkF at this;rw [xzap (put_dt f n vn vt v)]at this;exact this
end
end
section
open Go.ChangeShapes Go.WideShapes Go.ChangeAt Go.RowKit Go.Deep
section
variable {H : Type} {enc : TypeId × Value → H} {W : World} {base : Nat} {spare : Nat → Bool} {held : Bool}
theorem xzki {α β:Type}{f:α->Option β}:∀ {l:List α} {ys:List β},l.mapM f=some ys->∀ a∈l,∃ y,f a=some y
 |[],_,_,_,ha=>by cases ha
 |x::l,ys,h,a,ha=>by
  rw [List.mapM_cons]at h
  cases hx:f x with
  |none=>rw [hx]at h;simp at h
  |some y=>
   rw [hx]at h
   cases hl:l.mapM f with
   |none=>rw [hl]at h;simp at h
   |some zs=>
    rcases List.mem_cons.1 ha with rfl|ha
    ·exact⟨y,hx⟩
    ·exact xzki hl a ha
theorem yzaa:Tryz.prog.cellsOf 5=1:=by kernel_rfl
theorem xzma:Tryz.prog.cellsOf 22=256:=by kernel_rfl
theorem xzuu:Tryz.prog.cellsOf 24=257:=by kernel_rfl
theorem yzab:Tryz.prog.cellsOf 28=259:=by kernel_rfl
theorem xzrh:Tryz.prog.cellsOf 25=1:=by kernel_rfl
set_option maxRecDepth 100000 in
theorem xzri {fuel:Nat}{cs:List Value}{x:DataW H×List MemPlace}(h:DataW.trod enc Tryz.prog W base spare held fuel 22 cs=some x):
 ∃ f:Nat->Nat,(∀ i,i<256->f i<256)/\∀ i,i<256->cs[i]? =some (.int .u8 (f i:Nat)):=by
 cases fuel with
 |zero=>simp [DataW.trod]at h
 |succ k=>
  unfold DataW.trod at h;rw [Tryz.underlying22]at h;simp only [xzma,yzaa,Nat.mul_one]at h
  split at h
  ·obtain⟨xs,hxs,_⟩:=Option.map_eq_some_iff.1 h
   have each:=xzki hxs
   have hone:∀ i,i<256->∃ y:Nat,y<256/\cs[i]? =some (.int .u8 (y:Nat)):=fun i hi=>by
    obtain⟨y,hy⟩:=each i (List.mem_range.2 hi);obtain⟨z,e,_,hw⟩:=DataW.trod_int Tryz.underlying5 hy
    have h2:0<=z/\z<256:=by
     simp [Lit.wf,IntKind.min,IntKind.max,IntKind.signed,IntKind.bits]at hw
     omega
    refine⟨z.toNat,by omega,?_⟩
    have e0:((cs.drop i).take 1)[0]? =some (.int .u8 z):=by rw [e];rfl
    rw [List.getElem?_take,if_pos (by omega),List.getElem?_drop,Nat.add_zero]at e0;rw [e0,show((z.toNat:Nat):Int)=z by omega]
   obtain⟨f,hf⟩:=choose_lt hone;exact⟨f,fun i hi=>(hf i hi).1,fun i hi=>(hf i hi).2⟩
  ·cases h
set_option maxRecDepth 100000 in
theorem yzac {fuel:Nat}{cs:List Value}{x:DataW H×List MemPlace}(h:DataW.trod enc Tryz.prog W base spare held fuel 24 cs=some x):
 ∃ (f:Nat->Nat) (n:Int),(∀ i,i<256->f i<256)/\(∀ i,i<256->cs[i]? =some (.int .u8 (f i:Nat)))/\cs[256]? =some (.int .i64 n):=by
 cases fuel with
 |zero=>simp [DataW.trod]at h
 |succ k=>
  unfold DataW.trod at h;rw [Tryz.underlying24]at h;simp only at h
  split at h
  ·obtain⟨xs,hxs,_⟩:=Option.map_eq_some_iff.1 h
   have each:=xzki hxs;obtain⟨y0,hy0⟩:=each _ (List.mem_cons_self ..);obtain⟨y1,hy1⟩:=each _ (List.mem_cons_of_mem _ (List.mem_cons_self ..));simp only [xzma,xzoy,List.drop_zero]at hy0 hy1;obtain⟨f,hf1,hf2⟩:=xzri hy0;obtain⟨n,e,_,_⟩:=DataW.trod_int Tryz.underlying3 hy1;refine⟨f,n,hf1,fun i hi=>?_,?_⟩
   ·rw [<-hf2 i hi,List.getElem?_take,if_pos hi]
   ·have e0:((cs.drop 256).take 1)[0]? =some (.int .i64 n):=by rw [e];rfl
    rwa [List.getElem?_take,if_pos (by omega),List.getElem?_drop,Nat.add_zero]at e0
  ·cases h
theorem one_at {cs:List Value}{k:Nat}(h:k<cs.length):(cs.drop k).take 1=[cs[k]]:=by
 rw [List.drop_eq_getElem_cons h];rfl
set_option maxRecDepth 100000 in
theorem yzen {fuel:Nat}{cs:List Value}{x:DataW H×List MemPlace}(h:DataW.trod enc Tryz.prog W base spare held fuel 28 cs=some x):∃ D:Df,(∀ b,b<256->D.of b<256)/\DfAt W D (.agg cs.toArray):=by
 obtain⟨y0,y1,y2,n,_,hlen,f0,f1,f2⟩:=trod_struct3 Tryz.underlying28 h;rw [yzab]at hlen;simp only [xzuu,xzrh,xzle,List.drop_zero]at f0 f1 f2;obtain⟨f,m,hf,hof,hn⟩:=yzac f0;rw [one_at (by omega)]at f1 f2;obtain⟨l1,g1⟩:=xztc f1;obtain⟨l2,g2⟩:=xzpa f2;refine⟨⟨f,m,l1,l2⟩,hf,cs[257],cs[258],?_,g1,g2⟩
 congr 1
 apply Array.ext_getElem?
 intro i;rw [List.getElem?_toArray]
 by_cases hi:i<259
 ·rw [xzef _ _ _ _ hi]
  unfold dfF
  by_cases h1:i<256
  ·rw [if_pos h1,<-hof i h1,List.getElem?_take,if_pos (by omega)]
  ·rw [if_neg h1]
   by_cases h2:i=256
   ·subst h2
    rw [if_pos rfl,<-hn,List.getElem?_take,if_pos (by omega)]
   ·rw [if_neg h2]
    by_cases h3:i=257
    ·subst h3;rw [if_pos rfl,List.getElem?_eq_getElem]
    ·have:i=258:=by omega
     subst this;rw [if_neg h3,List.getElem?_eq_getElem]
 ·rw [List.getElem?_eq_none (by omega),Array.getElem?_eq_none (by rw [xzac];omega)]
set_option maxRecDepth 100000 in
theorem arg_df {r:Reach}{b0:Nat}{v:Value}{d:DataW H}{ps:List MemPlace}(hval:Value.okWide Tryz.prog W r b0 28 v)(hd:DataW.Trod enc Tryz.prog W base spare held 28 v d ps):∃ D:Df,(∀ b,b<256->D.of b<256)/\DfAt W D v:=by
 obtain⟨cs,rfl,_,_⟩:∃ cs,v=.agg cs/\cs.size=Tryz.prog.cellsOf 28/\Row.okWide Tryz.prog W r b0 28 cs:=by
  simpa [Value.okWide,Tryz.underlying28]using hval
 obtain⟨fuel,hf⟩:=hd;obtain⟨D,h1,h2⟩:=yzen hf;exact⟨D,h1,by simpa [Value.cells]using h2⟩
end
end
section
open Go.RowKit
variable {F : Fence} {n : Nat} {P : Program}
def roundEnds {σ:Type}(B:Nat)(Kp:World->World->Prop)(Iy:σ->World->Prop)(Ix:Code->World->Prop)(s:σ)(W:World):Exit->Act->World->Prop
 | .normal,_,W'=>KeepsFrom B W W'/\Kp W W'/\Iy s W'
 | .ret,_,W'=>KeepsFrom B W W'/\Ix .ret W'
 | .exit id,_,W'=>KeepsFrom B W W'/\Ix (.exit id) W'
 | .goto t,_,W'=>KeepsFrom B W W'/\Ix (.goto t) W'
 | .panic _,_,_=>False
 | .outgrown,_,_=>False
def Bides (B:Nat)(I:World->Prop):Prop:=∀ (W:World) (l:Nat) (o o':Obj),I W->B<=l->W.heap[l]? =some o->o.isCells=false->I (W.putObj l o')
theorem yzad {σ:Type}{g:Operand}{ps:Array Tmp}{assign body:Code}{Q:Exit->Act->World->Prop}{a:Act}{w:World}
 (hro:F.round=none)(h1:1<=n){gf:Nat}{bd lb:Array Value}(hg:a.eval g=.func (.func gf) bd lb)(hFg:F.fn gf)(eg:∀ args w,(callFunc gf args).run P w=.ok (.enter gf args) w)
 (encs:σ->Array Value)(hps:∀ s,(encs s).size=ps.size)(Kp:World->World->Prop)
 (hKt:∀ {A B C:World},Kp A B->Kp B C->Kp A C)(hKb:∀ (W:World) (l:Nat) (o o':Obj),w.heap.size<=l->W.heap[l]? =some o->o.isCells=false->Kp W (W.putObj l o'))
 (I Iy:σ->World->Prop)(Ix:Code->World->Prop)(Fin:World->Prop)
 (hI:∀ s,Bides w.heap.size (I s))(hIy:∀ s,Bides w.heap.size (Iy s))(hIx:∀ c,Bides w.heap.size (Ix c))(hFin:Bides w.heap.size Fin)
 (hcall:∀ (l:Nat) (G X:World->Prop),(∀ W W',G W->KeepsOthers W W'->G W')->
  (∀ s W,I s W->G W->YieldAt F (n - 1 - 1) P l (encs s) W fun e W'=>(e=.returned (.bool true)/\Iy s W'/\Kp W W'/\G W')\/(e=.returned (.bool false)/\X W'))->
  ∀ W,Below w.heap.size w W->KeepsOthers w W->G W->CallsIn F (n - 1) P gf (bd++ #[.func (.yield l) #[] #[]]++lb) W fun e W'=>(∃ v,e=.returned v)/\((Fin W'/\G W')\/X W'))
 (a₁:σ->Act)
 (hassign:∀ (l:Nat) (s:σ) (W:World) (K:Act->World->Prop),K (a₁ s) W->
  assign.wpIn (F.inRound l) (n - 1 - 1) P (Exit.then K (fun _ _ _=>False)) {tmps:=(ps.zip (encs s)).foldl (fun t (p,v)=>t.setIfInBounds p v) a.tmps,defers:=[]} W)
 (hbody:∀ (l:Nat) (s:σ) (W:World),w.heap.size<=W.heap.size->I s W->body.wpIn (F.inRound l) (n - 1 - 1) P (roundEnds w.heap.size Kp Iy Ix s W) (a₁ s) W)
 (hdone:∀ (D:Nat) (W:World),w.heap.size<=D->Fin W->W.heap[D]? =some (.deferred (some []))->Q .normal {a with defers:={target:=.collected D,args:=#[]}::a.defers} W)
 (hstop:∀ (D:Nat) (c:Code) (W:World),w.heap.size<=D->Ix c W->W.heap[D]? =some (.deferred (some []))->c.wpIn F n P Q {a with defers:={target:=.collected D,args:=#[]}::a.defers} W):
 (Code.rangeFunc g ps assign body).wpIn F n P Q a w:=by
 refine wpIn_rangeFunc fun fn hfn=>?_
 rw [hro]
 let rd:LoopState->Option Code->Obj:=fun st pe=>.loop {state:=st,pending:=pe,fn,tmps:=a.tmps,params:=ps,assign,body,defers:=w.heap.size}
 let G:World->Prop:=fun W=>W.heap[w.heap.size+1]? =some (rd .ready none)/\W.heap[w.heap.size]? =some (.deferred (some []))
 let X:World->Prop:=fun W=>∃ c,Ix c W/\W.heap[w.heap.size+1]? =some (rd .done (some c))/\W.heap[w.heap.size]? =some (.deferred (some []))
 let W1:=(w.alloc (.deferred (some []))).alloc (rd .ready none)
 have hG1:G W1:=by
  refine⟨?_,(Below.heap_alloc _ _ _ (by simp)).trans (World.alloc_heap_new w _)⟩;have:=World.alloc_heap_new (w.alloc (.deferred (some []))) (rd .ready none)
  rwa [World.size_alloc]at this
 have hB1:Below w.heap.size w W1:=((Below.refl _ w).alloc (Nat.le_refl _) _).alloc (by simp) _;have hK1:KeepsOthers w W1:=(KeepsOthers.alloc w _).trans (KeepsOthers.alloc _ _)
 refine⟨w.heap.size+1,[{target:=.collected w.heap.size,args:=#[]}],W1,{target:=.fn (.func gf) lb,args:=bd++ #[.func (.yield (w.heap.size+1)) #[] #[]]},W1,gf,
  bd++ #[.func (.yield (w.heap.size+1)) #[] #[]]++lb,W1,run_enterLoop_outer _ _ _ _ _,?_,?_,?_,fun _=>h1,?_⟩
 ·simp only [resolve,hg]
  simp [go_sem]
 ·intro f' hf'
  simp [Target.leads]at hf'
  subst hf';exact hFg
 ·simp [invoke,go_sem,eg]
 refine(hcall (w.heap.size+1) G X (fun W W' h hk=>⟨hk.same _ _ h.1 rfl,hk.same _ _ h.2 rfl⟩) ?_ W1 hB1 hK1 hG1).mono ?_
 ·rintro s W hi ⟨hl,hd⟩
  have hlt:w.heap.size+1<W.heap.size:=(Array.getElem?_eq_some_iff.1 hl).1;refine⟨fn,_,assign,body,run_yield (P:=P) (args:=encs s) hl (hps s),roundIn_of_wpIn hfn (hassign _ s W _ ⟨_,run_beginRound hl rfl,?_⟩)⟩
  let Wb:=W.putObj (w.heap.size+1) (rd .busy none)
  have hlb:Wb.heap[w.heap.size+1]? =some (rd .busy none):=World.putObj_heap_same hlt;have hdb:Wb.heap[w.heap.size]? =some (.deferred (some [])):=(World.putObj_heap_other (by omega)).trans hd;have hib:I s Wb:=hI s _ _ _ _ hi (by omega) hl rfl;have hkb:Kp W Wb:=hKb _ _ _ _ (by omega) hl rfl
  have ends:∀ (j:Option Code) (W3:World),KeepsFrom w.heap.size Wb W3->
   W3.heap[w.heap.size+1]? =some (rd .busy none)/\(Instr.endRound (w.heap.size+1) j).run P W3=.ok (.bool j.isNone) (W3.putObj (w.heap.size+1) (rd (if j.isNone then .ready else .done) j))/\
   (W3.putObj (w.heap.size+1) (rd (if j.isNone then .ready else .done) j)).heap[w.heap.size+1]? =some (rd (if j.isNone then .ready else .done) j)/\
   (W3.putObj (w.heap.size+1) (rd (if j.isNone then .ready else .done) j)).heap[w.heap.size]? =some (.deferred (some [])):=fun j W3 hk=>by
   have hl3:=hk.same _ _ (by omega) hlb rfl;exact⟨hl3,run_endRound (P:=P) j hl3,World.putObj_heap_same (Array.getElem?_eq_some_iff.1 hl3).1,(World.putObj_heap_other (by omega)).trans (hk.same _ _ (Nat.le_refl _) hdb rfl)⟩
  refine wpIn_mono (hbody _ s Wb (by show _<=(W.putObj _ _).heap.size;rw [World.putObj_size];omega) hib) ?_;rintro e a3 W3 hp
  cases e with
  |normal=>
   obtain⟨hk,hkp,hy⟩:=hp;obtain⟨hl3,hr,hl4,hd4⟩:=ends none W3 hk;exact⟨_,_,hr,.inl ⟨rfl,hIy s _ _ _ _ hy (by omega) hl3 rfl,hKt (hKt hkb hkp) (hKb _ _ _ _ (by omega) hl3 rfl),hl4,hd4⟩⟩
  |ret=>
   obtain⟨hl3,hr,hl4,hd4⟩:=ends (some .ret) W3 hp.1;exact⟨_,_,hr,.inr ⟨rfl,_,hIx _ _ _ _ _ hp.2 (by omega) hl3 rfl,hl4,hd4⟩⟩
  |exit id=>
   obtain⟨hl3,hr,hl4,hd4⟩:=ends (some (.exit id)) W3 hp.1;exact⟨_,_,hr,.inr ⟨rfl,_,hIx _ _ _ _ _ hp.2 (by omega) hl3 rfl,hl4,hd4⟩⟩
  |goto t=>
   obtain⟨hl3,hr,hl4,hd4⟩:=ends (some (.goto t)) W3 hp.1;exact⟨_,_,hr,.inr ⟨rfl,_,hIx _ _ _ _ _ hp.2 (by omega) hl3 rfl,hl4,hd4⟩⟩
  |panic ch=>exact hp.elim
  |outgrown=>exact hp.elim
 ·rintro e W2 ⟨⟨v,rfl⟩,(⟨hf,hl,hd⟩|⟨c,hx,hl,hd⟩)⟩
  ·exact⟨none,_,run_endLoop (P:=P) hl (by simp),hdone _ _ (Nat.le_refl _) (hFin _ _ _ _ hf (by omega) hl rfl) ((World.putObj_heap_other (by omega)).trans hd)⟩
  ·exact⟨some c,_,run_endLoop (P:=P) hl (by simp),hstop _ c _ (Nat.le_refl _) (hIx c _ _ _ _ hx (by omega) hl rfl) ((World.putObj_heap_other (by omega)).trans hd)⟩
end
end Go.Proofs.YtdjpphjpnkfeiaaGreatDoor
