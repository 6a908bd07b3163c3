/-
 WHAT hackleref09.Live ANSWERS: a contract. Condition: an automaton that may be.
-/
import Derived.Test.YtdjpphjpnkfeiaaGreatDoorQG32
namespace Go.Proofs.YtdjpphjpnkfeiaaGreatDoor
open Go.RowKit
attribute [local irreducible] FreeW textFrame
def Cm (D:Df):Nat->Int->Prop
 |0,_=>False
 |k+1,i=>0<=i/\i<(D.next.length:Int)/\(D.tag.getD i.toNat (-1)≠ -1\/Cm D k i\/ ∃ x∈D.next.getD i.toNat [],Cm D k x)
theorem Cm.in {D:Df}:∀ {k:Nat} {i:Int},Cm D k i->0<=i/\i<(D.next.length:Int)
 |_+1,_,h=>⟨h.1,h.2.1⟩
theorem Cm.up {D:Df}{k:Nat}{i:Int}(h:Cm D k i):Cm D (k+1) i:=⟨h.in.1,h.in.2,.inr (.inl h)⟩
theorem Cm.upTo {D:Df}{k m:Nat}(hkm:k<=m){i:Int}(h:Cm D k i):Cm D m i:=by
 induction hkm with
 |refl=>exact h
 |step _ ih=>exact ih.up
theorem lv_cm {D:Df}{i:Int}(h:Lv D i):∃ k,Cm D k i:=by
 induction h with
 |tag h1 h2 h3=>exact⟨1,h1,h2,.inl h3⟩
 |step h1 h2 h3 _ ih=>
  obtain⟨k,hk⟩:=ih;exact⟨k+1,h1,h2,.inr (.inr ⟨_,h3,hk⟩)⟩
noncomputable def cmB (D:Df)(k:Nat)(i:Nat):Bool:= @decide (Cm D k (i:Int)) (Classical.propDecidable _)
theorem cmB_iff {D:Df}{k i:Nat}:cmB D k i=true↔Cm D k (i:Int):=by unfold cmB;simp
noncomputable def cmL (D:Df)(k:Nat):List Nat:=(List.range D.next.length).filter (cmB D k)
theorem cm_next {D:Df}{j:Nat}(hs:∀ i,Cm D (j+1) i->Cm D j i):∀ m i,Cm D m i->Cm D j i:=by
 intro m
 induction m with
 |zero=>intro i h;exact h.elim
 |succ m ih=>
  intro i h
  apply hs
  obtain⟨h1,h2,h3⟩:=h;refine⟨h1,h2,?_⟩
  rcases h3 with h3|h3|⟨x,hx,h3⟩
  ·exact .inl h3
  ·exact .inr (.inl (ih i h3))
  ·exact .inr (.inr ⟨x,hx,ih x h3⟩)
theorem xzfy {p q:Nat->Bool}(hpq:∀ i,p i=true->q i=true):∀ (l:List Nat),(l.filter q).length<=(l.filter p).length->∀ i∈l,q i=true->p i=true
 |[],_,i,h,_=>by cases h
 |a::l,hl,i,hi,hq=>by
  have hle:(l.filter p).length<=(l.filter q).length:=by
   rw [<-List.countP_eq_length_filter,<-List.countP_eq_length_filter]
   exact List.countP_mono_left fun x _ h=>hpq x h
  rw [List.filter_cons,List.filter_cons]at hl
  by_cases hp:p a=true
  ·rw [if_pos hp,if_pos (hpq a hp)]at hl
   simp only [List.length_cons]at hl
   rcases List.mem_cons.1 hi with rfl|hi
   ·exact hp
   ·exact xzfy hpq l (by omega) i hi hq
  ·rw [if_neg hp]at hl
   by_cases hqa:q a=true
   ·rw [if_pos hqa]at hl
    simp only [List.length_cons]at hl;omega
   ·rw [if_neg hqa]at hl
    rcases List.mem_cons.1 hi with rfl|hi
    ·exact absurd hq hqa
    ·exact xzfy hpq l hl i hi hq
theorem cm_or (D:Df):∀ k,k<=(cmL D k).length\/ ∃ j,j<k/\∀ i,Cm D (j+1) i->Cm D j i
 |0=>.inl (Nat.zero_le _)
 |k+1=>by
  rcases cm_or D k with h|⟨j,hj,hs⟩
  ·by_cases h2:k+1<=(cmL D (k+1)).length
   ·exact .inl h2
   ·refine .inr ⟨k,Nat.lt_succ_self _,fun i hi=>?_⟩
    have hin:=hi.in;have:=xzfy (p:=cmB D k) (q:=cmB D (k+1)) (fun i h=>cmB_iff.2 (cmB_iff.1 h).up) (List.range D.next.length) (by unfold cmL at h h2;omega) i.toNat (List.mem_range.2 (by omega)) (cmB_iff.2 (by rw [Int.toNat_of_nonneg hin.1];exact hi));have:=cmB_iff.1 this
    rwa [Int.toNat_of_nonneg hin.1]at this
  ·exact .inr ⟨j,by omega,hs⟩
theorem lv_all {D:Df}{i:Int}(h:Lv D i):Cm D (D.next.length+1) i:=by
 obtain⟨m,hm⟩:=lv_cm h
 rcases cm_or D (D.next.length+1)with h1|⟨j,hj,hs⟩
 ·have:(cmL D (D.next.length+1)).length<=D.next.length:=by
   have:=List.length_filter_le (cmB D (D.next.length+1)) (List.range D.next.length);rw [List.length_range]at this;exact this
  omega
 ·exact(cm_next hs m i hm).upTo (by omega)
structure SwM (D:Df)(k i c:Nat)(tg:Bool)(m:Nat->Bool):Prop where
 sound:∀ q,q<D.next.length->m q=true->Lv D q
 old:∀ q:Nat,q<D.next.length->Cm D k q->m q=true
 new:∀ q:Nat,q<i->q<D.next.length->Cm D (k+1) q->m q=true
 here:i<D.next.length->tg=true->(D.tag.getD i (-1)≠ -1->m i=true)/\∀ x∈(D.next.getD i []).take c,Cm D k x->m i=true
def mSet (m:Nat->Bool)(i:Nat)(b:Bool):Nat->Bool:=fun q=>if q=i then b else m q
theorem yzgh (m:Nat->Bool)(i:Nat)(b:Bool):putV (fun q=>.bool (m q)) i (.bool b)=fun q=>.bool (mSet m i b q):=by
 funext q;unfold putV mSet;split<;>rfl
theorem SwM.tag {D:Df}{k i:Nat}{m:Nat->Bool}(h:SwM D k i 0 false m)(hi:i<D.next.length):SwM D k i 0 true (mSet m i (m i||decide (D.tag.getD i (-1)≠ -1))):=by
 have up:∀ q,m q=true->mSet m i (m i||decide (D.tag.getD i (-1)≠ -1)) q=true:=fun q hq=>by
  unfold mSet;split
  ·rename_i e;subst e;rw [hq];rfl
  ·exact hq
 refine⟨fun q hq hm=>?_,fun q hq hc=>up q (h.old q hq hc),fun q h1 h2 h3=>up q (h.new q h1 h2 h3),fun _ _=>⟨fun ht=>?_,fun x hx=>by simp at hx⟩⟩
 ·unfold mSet at hm
  split at hm
  ·rename_i e
   subst e
   rcases Bool.or_eq_true_iff.1 hm with h1|h1
   ·exact h.sound q hq h1
   ·exact .tag (by omega) (by omega) (by rw [Int.toNat_natCast];exact of_decide_eq_true h1)
  ·exact h.sound q hq hm
 ·unfold mSet;rw [if_pos rfl,decide_eq_true ht,Bool.or_true]
theorem SwM.one {D:Df}{k i c:Nat}{m:Nat->Bool}(h:SwM D k i c true m)(hi:i<D.next.length)(hc:c<(D.next.getD i []).length)(hin:∀ x∈D.next.getD i [], -1<=x/\x<(D.next.length:Int)):
 SwM D k i (c+1) true (mSet m i (m i||(decide (0<=(D.next.getD i [])[c])&&m ((D.next.getD i [])[c]).toNat))):=by
 have hxm:(D.next.getD i [])[c]∈D.next.getD i []:=List.getElem_mem hc;have hxi:=hin _ hxm;obtain⟨x,hx⟩:∃ x,(D.next.getD i [])[c]=x:=⟨_,rfl⟩;rw [hx]at hxm hxi ⊢
 have up:∀ q,m q=true->mSet m i (m i||(decide (0<=x)&&m x.toNat)) q=true:=fun q hq=>by
  unfold mSet;split
  ·rename_i e;subst e;rw [hq];rfl
  ·exact hq
 refine⟨fun q hq hm=>?_,fun q hq hcm=>up q (h.old q hq hcm),fun q h1 h2 h3=>up q (h.new q h1 h2 h3),fun _ _=>⟨fun ht=>up i ((h.here hi rfl).1 ht),fun y hy hcm=>?_⟩⟩
 ·unfold mSet at hm
  split at hm
  ·rename_i e
   subst e
   rcases Bool.or_eq_true_iff.1 hm with h1|h1
   ·exact h.sound q hq h1
   ·obtain⟨h2,h3⟩:=Bool.and_eq_true_iff.1 h1
    have h2':=of_decide_eq_true h2;have h4:=h.sound x.toNat (by omega) h3;rw [Int.toNat_of_nonneg h2']at h4;exact .step (by omega) (by omega) (by rw [Int.toNat_natCast];exact hxm) h4
  ·exact h.sound q hq hm
 ·rw [List.take_succ_eq_append_getElem hc,hx]at hy
  rcases List.mem_append.1 hy with hy|hy
  ·exact up i ((h.here hi rfl).2 y hy hcm)
  ·rw [List.mem_singleton]at hy
   subst hy;have h0:=hcm.in;have:=h.old y.toNat (by omega) (by rw [Int.toNat_of_nonneg h0.1];exact hcm);unfold mSet;rw [if_pos rfl,this,decide_eq_true h0.1];simp
theorem SwM.row {D:Df}{k i:Nat}{m:Nat->Bool}(h:SwM D k i (D.next.getD i []).length true m)(hi:i<D.next.length):SwM D k (i+1) 0 false m:=by
 refine⟨h.sound,h.old,fun q h1 h2 h3=>?_,fun _ e=>by cases e⟩
 by_cases e:q=i
 ·subst e
  obtain⟨_,_,h4⟩:=h3;rw [Int.toNat_natCast]at h4
  rcases h4 with h4|h4|⟨x,hx,h4⟩
  ·exact(h.here hi rfl).1 h4
  ·exact h.old q h2 h4
  ·exact(h.here hi rfl).2 x (by rw [List.take_length];exact hx) h4
 ·exact h.new q (by omega) h2 h3
theorem SwM.sweep {D:Df}{k:Nat}{m:Nat->Bool}(h:SwM D k D.next.length 0 false m):SwM D (k+1) 0 0 false m:=
 ⟨h.sound,fun q hq hc=>h.new q hq hq hc,fun q h1=>by omega,fun _ e=>by cases e⟩
theorem SwM.begin (D:Df):SwM D 0 0 0 false (fun _=>false):=⟨fun _ _ e=>absurd e (by decide),fun _ _ h=>False.elim h,fun q h=>absurd h (Nat.not_lt_zero q),fun _ e=>absurd e (by decide)⟩
theorem SwM.all {D:Df}{m:Nat->Bool}(h:SwM D (D.next.length+1) 0 0 false m)(q:Nat)(hq:q<D.next.length):m q=lvB D q:=by
 rw [Bool.eq_iff_iff,lvB_iff];exact⟨h.sound q hq,fun hl=>h.old q hq (lv_all hl)⟩
set_option maxRecDepth 20000 in
set_option maxHeartbeats 16000000 in
theorem xzol (D:Df)(v:Value)(w:World)(h:DfAt w D v)(hm:MayD D):
 Calls Tryz.prog 42 #[v] w fun e w'=>∃ g,e=.returned (.slice (some ⟨g,0,none⟩) D.next.length D.next.length)/\w.heap.size<=g/\BlkF w' g 4 D.next.length (fun i=>.bool (lvB D i))/\Below w.heap.size w w':=by
 obtain⟨vn,vt,rfl,hrn,hrt⟩:=h;obtain⟨An,cn,rfl,hcn,hgn⟩:=hrn;obtain⟨At,ct,rfl,hct,hgt⟩:=hrt;obtain⟨W1,hbx,hsz,hb1,hx1⟩:=xzca D.of D.n (.slice An D.next.length cn) (.slice At D.tag.length ct) w;obtain⟨dc,hdc⟩:∃ dc,dfC D.of D.n (.slice An D.next.length cn) (.slice At D.tag.length ct)=dc:=⟨_,rfl⟩;rw [hdc]at hbx
 have hds:dc.size=259:=by rw [<-hdc];exact xzac _ _ _ _
 rw [hdc];have hd1:=DfB.of hx1;obtain⟨c256,c257,c258⟩:=hd1.cells;obtain⟨W2,hW2⟩:∃ W2,W1.alloc (.cells (cellsN D.next.length fun _=>.bool false) 4)=W2:=⟨_,rfl⟩;have hfew:=hm.few;have hmk:=xzfv D.next.length (by omega) W1;rw [hW2]at hmk
 have hb12:Below W1.heap.size W1 W2:=by rw [<-hW2];exact(Below.refl _ _).alloc (Nat.le_refl _) _
 have h0:=zd (show Below w.heap.size w W2/\DfB W2 w.heap.size D.of D.n (.slice An D.next.length cn) (.slice At D.tag.length ct)/\BlkF W2 W1.heap.size 4 D.next.length (fun q=>.bool ((fun _=>false:Nat->Bool) q))from
  ⟨hb1.trans (hb12.mono (by omega)),hd1.step hb12,by rw [<-hW2];exact BlkIs.new _ _ _⟩)
 obtain⟨g,hg⟩:∃ g,g=W1.heap.size:=⟨_,rfl⟩;rw [<-hg]at h0 hmk
 have hgw:w.heap.size<g:=by omega
 have HMD:=zd hm;have htl:=hm.tags;have HGN:=zd hgn;have HGT:=zd hgt;clear hb1 hx1 hd1 hdc hgn hgt hm hb12 hW2 hg hsz
 obtain⟨J,hJ⟩:∃ J:Nat->Nat->Nat->Bool->World->Prop,J=fun k i c tg wr=>∃ m,SwM D k i c tg m/\Below w.heap.size w wr/\DfB wr w.heap.size D.of D.n (.slice An D.next.length cn) (.slice At D.tag.length ct)/\BlkF wr g 4 D.next.length (fun q=>.bool (m q)):=⟨_,rfl⟩
 have HJ:=zd hJ;clear hJ
 have HSET:=zd (show ∀ (k i c:Nat) (tg:Bool) (m:Nat->Bool) (wr:World) (k' i' c':Nat) (tg' b:Bool),Below w.heap.size w wr/\DfB wr w.heap.size D.of D.n (.slice An D.next.length cn) (.slice At D.tag.length ct)/\BlkF wr g 4 D.next.length (fun q=>.bool (m q))->SwM D k' i' c' tg' (mSet m i b)->J k' i' c' tg' (wr.setCell ⟨g,i,none⟩ (.bool b))from fun k i c tg m wr k' i' c' tg' b h1 h2=>by
  rw [HJ.out]
  exact⟨_,h2,h1.1.setCell (p:=⟨g,i,none⟩) (by show w.heap.size<=g;omega) _,fun q hq=>(xzbf (Below.heap_setCell wr ⟨g,i,none⟩ (.bool b) w.heap.size (by show w.heap.size≠g;omega))).trans (h1.2.1 q hq),by rw [<-yzgh];exact h1.2.2.put _ _⟩)
 have HJ0:=zd (show J 0 0 0 false W2 by rw [HJ.out];exact⟨_,SwM.begin D,h0.out⟩)
 go_enter Tryz.func42,Tryz.ntmps42
 go_wp2;clear hbx hds c256 c257 c258 hmk h0
 go_loopw [4,5,6] (fun i _ _ wr=>∃ k:Nat,i=.int .i64 k/\k<=D.next.length+1/\Hid (J k 0 0 false wr)) (fun i _ _ _=>D.next.length+1 - (intOf i).toNat)
 case atStart=>exact⟨0,rfl,Nat.zero_le _,HJ0⟩
 case round=>
  obtain⟨k,rfl,hk,HH⟩:=hrel;obtain⟨w1,rfl⟩:∃ w1,w1=wr:=⟨_,rfl⟩;have hjj:=HH.out;rw [HJ.out]at hjj;obtain⟨m,hsw,hbw,hdw,hbm⟩:=hjj;obtain⟨c256,c257,c258⟩:=hdw.cells
  by_cases hp:k<=D.next.length
  ·have hk1:IntKind.i64.wrap ((k:Int)+1)=((k+1:Nat):Int):=by rw [IntKind.wrap_i64];omega
   have hdl:decide ((k:Int)<=(D.next.length:Int))=true:=by simp;omega
   clear hsw hbw hdw hbm;go_wp2;clear c256 c257 c258
   go_loopw [5,6] (fun i _ wr=>∃ a:Nat,i=.int .i64 a/\a<=D.next.length/\Hid (J k a 0 false wr)) (fun i _ _=>D.next.length - (intOf i).toNat)
   case atStart=>exact⟨0,rfl,Nat.zero_le _,HH⟩
   case round=>
    obtain⟨a,rfl,ha,HI⟩:=hrel;obtain⟨w2,rfl⟩:∃ w2,w2=wr:=⟨_,rfl⟩;have hjj:=HI.out;rw [HJ.out]at hjj;obtain⟨m,hsw,hbw,hdw,hbm⟩:=hjj;obtain⟨c256,c257,c258⟩:=hdw.cells
    by_cases hq:a<D.next.length
    ·skip
     have hqt:a<D.tag.length:=by omega
     have hk2:IntKind.i64.wrap ((a:Int)+1)=((a+1:Nat):Int):=by rw [IntKind.wrap_i64];omega
     have hdl2:decide ((a:Int)<(D.next.length:Int))=true:=by simp;omega
     have i2:decide ((a:Int)<(D.tag.length:Int))=true:=by simp;omega
     obtain⟨bn,on,rfl,hltn,hgr⟩:=HGN.out (by intro e;rw [e]at hq;simp at hq);obtain⟨bt,ot,rfl,hltt,hgg⟩:=HGT.out (by intro e;rw [e]at hqt;simp at hqt);obtain⟨vr,hcr,hvr⟩:=hgr a hq;have hct:=(hbw.cell (p:=⟨bt,ot+a,none⟩) hltt).trans (hgg a hqt);have hcell:=(hbw.cell (p:=⟨bn,on+a,none⟩) hltn).trans hcr;have HRI:=zd ((HMD.out.rows _ (List.getElem_mem hq)).2);have HRS:=zd (HMD.out.short _ (List.getElem_mem hq));have HGD:=zd (show D.next.getD a []=D.next[a]by rw [List.getD_eq_getElem?_getD,List.getElem?_eq_getElem hq];rfl);have hti:=HMD.out.tag _ (List.getElem_mem hqt);have htg:=hsw.tag hq
     have hgt2:D.tag.getD a (-1)=D.tag[a]:=by rw [List.getD_eq_getElem?_getD,List.getElem?_eq_getElem hqt];rfl
     rw [hgt2]at htg;have hcm:=BlkF.cell hbm hq;have hfz:=BlkIs.frozen hbm a;generalize D.next[a]=r at*;generalize D.tag[a]=t at*;obtain⟨Ar,cr,rfl,hcr2,hgrr⟩:=hvr;have HGR:=zd hgrr;have HRC:=zd hcr
     have hst:=fun b' (hb':(m a||decide (t≠ -1))=b')=>HSET.out 0 a 0 true m w2 k a 0 true b' ⟨hbw,hdw,hbm⟩ (hb'▸htg)
     clear hgr hgg hcr hgrr hgt2
     cases hma:m a with
     |true=>
      rw [hma]at hcm;have HS:=zd (hst true (by rw [hma];rfl));clear hst htg hsw hbw hdw hbm hti;have hlr:=HRS.out;go_wp2;clear c256 c257 c258 hcm hfz hct hcell
      go_loopw [6] (fun i wr=>∃ c:Nat,i=.int .i64 c/\c<=r.length/\Hid (J k a c true wr)) (fun i _=>r.length - (intOf i).toNat)
      case atStart=>exact⟨0,rfl,Nat.zero_le _,HS⟩
      case round=>
       obtain⟨c,rfl,hc,HK⟩:=hrel;obtain⟨w3,rfl⟩:∃ w3,w3=wr:=⟨_,rfl⟩;have hjj:=HK.out;rw [HJ.out]at hjj;obtain⟨m3,hsw3,hbw3,hdw3,hbm3⟩:=hjj;obtain⟨c256,c257,c258⟩:=hdw3.cells;have hcell:=(hbw3.cell (p:=⟨bn,on+a,none⟩) hltn).trans HRC.out
       by_cases hr:c<r.length
       ·have hk3:IntKind.i64.wrap ((c:Int)+1)=((c+1:Nat):Int):=by rw [IntKind.wrap_i64];omega
        have hdl3:decide ((c:Int)<(r.length:Int))=true:=by simp;omega
        have hcm:=BlkF.cell hbm3 hq;have hfz:=BlkIs.frozen hbm3 a;obtain⟨br,or,rfl,hltr,hgx⟩:=HGR.out (by intro e;rw [e]at hr;simp at hr);have hcx:=(hbw3.cell (p:=⟨br,or+c,none⟩) hltr).trans (hgx c hr);have hone:=hsw3.one hq (by rw [HGD.out];exact hr) (by rw [HGD.out];exact HRI.out);simp only [HGD.out]at hone;have hxi:=HRI.out _ (List.getElem_mem hr);clear hgx;generalize r[c]=x at*
        have hst:=fun b' (hb':(m3 a||(decide (0<=x)&&m3 x.toNat))=b')=>HSET.out 0 a 0 true m3 w3 k a (c+1) true b' ⟨hbw3,hdw3,hbm3⟩ (hb'▸hone)
        cases hma3:m3 a with
        |true=>
         rw [hma3]at hcm;have HN:=zd (hst true (by rw [hma3];rfl));clear hst hone hsw3 hbw3 hdw3 hbm3 hxi;go_wp2;exact⟨⟨c+1,rfl,hr,HN⟩,by simp [intOf];omega⟩
        |false=>
         rw [hma3]at hcm
         by_cases hx0:0<=x
         ·obtain⟨xn,rfl⟩:∃ xn:Nat,x=(xn:Nat):=⟨x.toNat,by omega⟩
          have q1:decide ((xn:Int)>=0)=true:=by simp
          have q1b:decide ((0:Int)<=(xn:Int))=true:=by simp
          have hxn:xn<D.next.length:=by omega
          have i3:decide ((xn:Int)<(D.next.length:Int))=true:=by simp;omega
          have hcx2:=BlkF.cell hbm3 hxn;have HN:=zd (hst (m3 xn) (by rw [hma3,decide_eq_true hx0];rfl));clear hst hone hsw3 hbw3 hdw3 hbm3 hxi hx0;generalize m3 xn=mx at*;go_wp2;exact⟨⟨c+1,rfl,hr,HN⟩,by simp [intOf];omega⟩
         ·have q1:decide (x>=0)=false:=by simp;omega
          have q1b:decide (0<=x)=false:=by simp;omega
          have HN:=zd (hst false (by rw [hma3,q1b];rfl));clear hst hone hsw3 hbw3 hdw3 hbm3 hxi hx0;go_wp2;exact⟨⟨c+1,rfl,hr,HN⟩,by simp [intOf];omega⟩
       ·have hdl3:decide ((c:Int)<(r.length:Int))=false:=by simp;omega
        obtain rfl:c=r.length:=by omega
        have HN:=zd (show J k (a+1) 0 false w3 by rw [HJ.out];exact⟨m3,(show SwM D k a (D.next.getD a []).length true m3 by rw [HGD.out];exact hsw3).row hq,hbw3,hdw3,hbm3⟩);clear hsw3 hbw3 hdw3 hbm3;go_wp2;exact⟨⟨a+1,rfl,hq,HN⟩,by simp [intOf];omega⟩
     |false=>
      rw [hma]at hcm
      by_cases ht0:t= -1
      ·have q0:decide (t>=0)=false:=by simp;omega
       have q0b:decide (0<=t)=false:=by simp;omega
       have HS:=zd (hst false (by rw [hma,ht0];rfl));clear hst htg hsw hbw hdw hbm hti ht0;have hlr:=HRS.out;go_wp2;clear c256 c257 c258 hcm hfz hct hcell
       go_loopw [6] (fun i wr=>∃ c:Nat,i=.int .i64 c/\c<=r.length/\Hid (J k a c true wr)) (fun i _=>r.length - (intOf i).toNat)
       case atStart=>exact⟨0,rfl,Nat.zero_le _,HS⟩
       case round=>
        obtain⟨c,rfl,hc,HK⟩:=hrel;obtain⟨w3,rfl⟩:∃ w3,w3=wr:=⟨_,rfl⟩;have hjj:=HK.out;rw [HJ.out]at hjj;obtain⟨m3,hsw3,hbw3,hdw3,hbm3⟩:=hjj;obtain⟨c256,c257,c258⟩:=hdw3.cells;have hcell:=(hbw3.cell (p:=⟨bn,on+a,none⟩) hltn).trans HRC.out
        by_cases hr:c<r.length
        ·have hk3:IntKind.i64.wrap ((c:Int)+1)=((c+1:Nat):Int):=by rw [IntKind.wrap_i64];omega
         have hdl3:decide ((c:Int)<(r.length:Int))=true:=by simp;omega
         have hcm:=BlkF.cell hbm3 hq;have hfz:=BlkIs.frozen hbm3 a;obtain⟨br,or,rfl,hltr,hgx⟩:=HGR.out (by intro e;rw [e]at hr;simp at hr);have hcx:=(hbw3.cell (p:=⟨br,or+c,none⟩) hltr).trans (hgx c hr);have hone:=hsw3.one hq (by rw [HGD.out];exact hr) (by rw [HGD.out];exact HRI.out);simp only [HGD.out]at hone;have hxi:=HRI.out _ (List.getElem_mem hr);clear hgx;generalize r[c]=x at*
         have hst:=fun b' (hb':(m3 a||(decide (0<=x)&&m3 x.toNat))=b')=>HSET.out 0 a 0 true m3 w3 k a (c+1) true b' ⟨hbw3,hdw3,hbm3⟩ (hb'▸hone)
         cases hma3:m3 a with
         |true=>
          rw [hma3]at hcm;have HN:=zd (hst true (by rw [hma3];rfl));clear hst hone hsw3 hbw3 hdw3 hbm3 hxi;go_wp2;exact⟨⟨c+1,rfl,hr,HN⟩,by simp [intOf];omega⟩
         |false=>
          rw [hma3]at hcm
          by_cases hx0:0<=x
          ·obtain⟨xn,rfl⟩:∃ xn:Nat,x=(xn:Nat):=⟨x.toNat,by omega⟩
           have q1:decide ((xn:Int)>=0)=true:=by simp
           have q1b:decide ((0:Int)<=(xn:Int))=true:=by simp
           have hxn:xn<D.next.length:=by omega
           have i3:decide ((xn:Int)<(D.next.length:Int))=true:=by simp;omega
           have hcx2:=BlkF.cell hbm3 hxn;have HN:=zd (hst (m3 xn) (by rw [hma3,decide_eq_true hx0];rfl));clear hst hone hsw3 hbw3 hdw3 hbm3 hxi hx0;generalize m3 xn=mx at*;go_wp2;exact⟨⟨c+1,rfl,hr,HN⟩,by simp [intOf];omega⟩
          ·have q1:decide (x>=0)=false:=by simp;omega
           have q1b:decide (0<=x)=false:=by simp;omega
           have HN:=zd (hst false (by rw [hma3,q1b];rfl));clear hst hone hsw3 hbw3 hdw3 hbm3 hxi hx0;go_wp2;exact⟨⟨c+1,rfl,hr,HN⟩,by simp [intOf];omega⟩
        ·have hdl3:decide ((c:Int)<(r.length:Int))=false:=by simp;omega
         obtain rfl:c=r.length:=by omega
         have HN:=zd (show J k (a+1) 0 false w3 by rw [HJ.out];exact⟨m3,(show SwM D k a (D.next.getD a []).length true m3 by rw [HGD.out];exact hsw3).row hq,hbw3,hdw3,hbm3⟩);clear hsw3 hbw3 hdw3 hbm3;go_wp2;exact⟨⟨a+1,rfl,hq,HN⟩,by simp [intOf];omega⟩
      ·have q0:decide (t>=0)=true:=by simp;omega
       have q0b:decide (0<=t)=true:=by simp;omega
       have HS:=zd (hst true (by rw [hma,decide_eq_true ht0];rfl));clear hst htg hsw hbw hdw hbm hti ht0;have hlr:=HRS.out;go_wp2;clear c256 c257 c258 hcm hfz hct hcell
       go_loopw [6] (fun i wr=>∃ c:Nat,i=.int .i64 c/\c<=r.length/\Hid (J k a c true wr)) (fun i _=>r.length - (intOf i).toNat)
       case atStart=>exact⟨0,rfl,Nat.zero_le _,HS⟩
       case round=>
        obtain⟨c,rfl,hc,HK⟩:=hrel;obtain⟨w3,rfl⟩:∃ w3,w3=wr:=⟨_,rfl⟩;have hjj:=HK.out;rw [HJ.out]at hjj;obtain⟨m3,hsw3,hbw3,hdw3,hbm3⟩:=hjj;obtain⟨c256,c257,c258⟩:=hdw3.cells;have hcell:=(hbw3.cell (p:=⟨bn,on+a,none⟩) hltn).trans HRC.out
        by_cases hr:c<r.length
        ·have hk3:IntKind.i64.wrap ((c:Int)+1)=((c+1:Nat):Int):=by rw [IntKind.wrap_i64];omega
         have hdl3:decide ((c:Int)<(r.length:Int))=true:=by simp;omega
         have hcm:=BlkF.cell hbm3 hq;have hfz:=BlkIs.frozen hbm3 a;obtain⟨br,or,rfl,hltr,hgx⟩:=HGR.out (by intro e;rw [e]at hr;simp at hr);have hcx:=(hbw3.cell (p:=⟨br,or+c,none⟩) hltr).trans (hgx c hr);have hone:=hsw3.one hq (by rw [HGD.out];exact hr) (by rw [HGD.out];exact HRI.out);simp only [HGD.out]at hone;have hxi:=HRI.out _ (List.getElem_mem hr);clear hgx;generalize r[c]=x at*
         have hst:=fun b' (hb':(m3 a||(decide (0<=x)&&m3 x.toNat))=b')=>HSET.out 0 a 0 true m3 w3 k a (c+1) true b' ⟨hbw3,hdw3,hbm3⟩ (hb'▸hone)
         cases hma3:m3 a with
         |true=>
          rw [hma3]at hcm;have HN:=zd (hst true (by rw [hma3];rfl));clear hst hone hsw3 hbw3 hdw3 hbm3 hxi;go_wp2;exact⟨⟨c+1,rfl,hr,HN⟩,by simp [intOf];omega⟩
         |false=>
          rw [hma3]at hcm
          by_cases hx0:0<=x
          ·obtain⟨xn,rfl⟩:∃ xn:Nat,x=(xn:Nat):=⟨x.toNat,by omega⟩
           have q1:decide ((xn:Int)>=0)=true:=by simp
           have q1b:decide ((0:Int)<=(xn:Int))=true:=by simp
           have hxn:xn<D.next.length:=by omega
           have i3:decide ((xn:Int)<(D.next.length:Int))=true:=by simp;omega
           have hcx2:=BlkF.cell hbm3 hxn;have HN:=zd (hst (m3 xn) (by rw [hma3,decide_eq_true hx0];rfl));clear hst hone hsw3 hbw3 hdw3 hbm3 hxi hx0;generalize m3 xn=mx at*;go_wp2;exact⟨⟨c+1,rfl,hr,HN⟩,by simp [intOf];omega⟩
          ·have q1:decide (x>=0)=false:=by simp;omega
           have q1b:decide (0<=x)=false:=by simp;omega
           have HN:=zd (hst false (by rw [hma3,q1b];rfl));clear hst hone hsw3 hbw3 hdw3 hbm3 hxi hx0;go_wp2;exact⟨⟨c+1,rfl,hr,HN⟩,by simp [intOf];omega⟩
        ·have hdl3:decide ((c:Int)<(r.length:Int))=false:=by simp;omega
         obtain rfl:c=r.length:=by omega
         have HN:=zd (show J k (a+1) 0 false w3 by rw [HJ.out];exact⟨m3,(show SwM D k a (D.next.getD a []).length true m3 by rw [HGD.out];exact hsw3).row hq,hbw3,hdw3,hbm3⟩);clear hsw3 hbw3 hdw3 hbm3;go_wp2;exact⟨⟨a+1,rfl,hq,HN⟩,by simp [intOf];omega⟩
    ·have hdl2:decide ((a:Int)<(D.next.length:Int))=false:=by simp;omega
     obtain rfl:a=D.next.length:=by omega
     have HN:=zd (show J (k+1) 0 0 false w2 by rw [HJ.out];exact⟨m,hsw.sweep,hbw,hdw,hbm⟩);clear hsw hbw hdw hbm;go_wp2;exact⟨⟨k+1,rfl,by omega,HN⟩,by simp [intOf];omega⟩
  ·have hdl:decide ((k:Int)<=(D.next.length:Int))=false:=by simp;omega
   obtain rfl:k=D.next.length+1:=by omega
   have HF:=zd (show BlkF w1 g 4 D.next.length (fun i=>.bool (lvB D i))/\Below w.heap.size w w1 by
    refine⟨?_,hbw⟩
    have e:cellsN D.next.length (fun q=>.bool (m q))=cellsN D.next.length (fun i=>.bool (lvB D i)):=xzan fun q hq=>by rw [hsw.all q hq]
    unfold BlkF at hbm ⊢
    rw [<-e];exact hbm)
   clear hsw hbw hdw hbm;go_wp2;go_ret;exact⟨g,rfl,by omega,HF.out⟩
end Go.Proofs.YtdjpphjpnkfeiaaGreatDoor
