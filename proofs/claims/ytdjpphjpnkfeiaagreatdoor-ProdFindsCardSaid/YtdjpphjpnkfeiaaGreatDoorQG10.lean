/-
 WHAT rows OF PACKAGE class ANSWERS: of each byte its class, and a bit for each set that has it: a contract. Condition: the table of math/bits lies as it is laid; the sets lie in memory; 64 sets at most; classes are bytes.
-/
import Derived.Maps.OwnSet
import Derived.RangeFuncBox
import Derived.Test.YtdjpphjpnkfeiaaGreatDoorQG09
import Derived.Test.YtdjpphjpnkfeiaaGreatDoorQG04
namespace Go.Proofs.YtdjpphjpnkfeiaaGreatDoor
section
open Go.RowKit
def setL (m:Nat->Bool):List Value:=[.int .u64 (wd m 0:Nat),.int .u64 (wd m 1:Nat),.int .u64 (wd m 2:Nat),.int .u64 (wd m 3:Nat)]
def SetRow (w:World)(B:Nat)(A:Option Addr)(ms:List (Nat->Bool)):Prop:=
 ms≠[]->∃ b off,A=some ⟨b,off,none⟩/\b<B/\∀ (k:Nat) (m:Nat->Bool),ms[k]? =some m->w.rangeAt b (off+k*4) (setL m)
theorem xzfz {B:Nat}{w w':World}(hb:Below B w w'){b o:Nat}{l:List Value}(h:b<B)(hr:w.rangeAt b o l):w'.rangeAt b o l:=fun j v hv=>by
 rw [hb.cell (p:=⟨b,o+j,none⟩) h];exact hr j v hv
theorem SetRow.below {w w':World}{B:Nat}{A:Option Addr}{ms:List (Nat->Bool)}(h:SetRow w B A ms)(hb:Below B w w'):SetRow w' B A ms:=fun hne=>by
 obtain⟨b,off,rfl,hlt,hc⟩:=h hne;exact⟨b,off,rfl,hlt,fun k m hk=>xzfz hb hlt (hc k m hk)⟩
theorem SetRow.wide {w:World}{B B':Nat}{A:Option Addr}{ms:List (Nat->Bool)}(h:SetRow w B A ms)(hB:B<=B'):SetRow w B' A ms:=fun hne=>by
 obtain⟨b,off,rfl,hlt,hc⟩:=h hne;exact⟨b,off,rfl,by omega,hc⟩
theorem infoS:(Tryz.prog.info? 48).map (·.size)=some 4:=by kernel_rfl
theorem xzni {ops:Array Oper}{rest:List Oper}{op:Oper}{a:Act}{w:World}{Q:Exit->Act->World->Prop}{b o:Nat}{m:Nat->Bool}(hgd:op.guard=none)(x:Operand)(ho:op.op=.load 48 x)
 (hx:a.eval x=.pointer (some ⟨b,o,none⟩))(h:w.rangeAt b o (setL m))(hK:wpList Tryz.prog ops Q rest (a.put op.dst (setV m)) w):wpList Tryz.prog ops Q (op::rest) a w:=
 wpList_load_mid hgd 48 x ho b o hx (setL m) _ h Tryz.underlying48 rfl (by rw [infoS];rfl) hK
def rowR (f:Nat->Nat)(P:Nat->Nat->Bool)(i:Nat):Nat:=if i%2=0 then f (i / 2)else wd (fun j=>P j (i / 2)) 0
def rowK (f:Nat->Nat)(k i:Nat):Nat:=if i%2=0/\i / 2<k then f (i / 2)else 0
def partBr (ms:List (Nat->Bool))(i:Nat)(l:List Nat)(j b:Nat):Bool:=if j<i then(ms.getD j fun _=>false) b else if j=i then decide (b∈l)else false
def allP (ms:List (Nat->Bool))(j b:Nat):Bool:=(ms.getD j fun _=>false) b
theorem yzea (f:Nat->Nat){k:Nat}:(rowC (rowK f k)).setIfInBounds (k*2) (.int .u64 (f k:Nat))=rowC (rowK f (k+1)):=by
 rw [xztl]
 refine xzda fun i _=>?_
 unfold updN rowK
 by_cases e:i=k*2
 ·subst e;simp
 ·rw [if_neg e]
  by_cases h:i%2=0/\i / 2<k
  ·rw [if_pos h,if_pos (by omega)]
  ·rw [if_neg h,if_neg (by omega)]
theorem yzeb (f:Nat->Nat)(ms:List (Nat->Bool)):rowC (rowK f 256)=rowC (rowR f (partBr ms 0 [])):=xzda fun i hi=>by
 unfold rowK rowR
 by_cases h:i%2=0
 ·rw [if_pos ⟨h,by omega⟩,if_pos h]
 ·rw [if_neg (by omega),if_neg h]
  have e:(fun j=>partBr ms 0 [] j (i / 2))=sOf []:=by
   funext j
   simp [partBr,sOf]
  rw [e,xzos]
theorem yzec (f:Nat->Nat)(ms:List (Nat->Bool))(i:Nat)(l:List Nat)(x:Nat):
 (rowC (rowR f (partBr ms i l))).setIfInBounds (x*2+1) (.int .u64 (wd (fun j=>partBr ms i (l++[x]) j x) 0:Nat))=rowC (rowR f (partBr ms i (l++[x]))):=by
 rw [xztl]
 refine xzda fun q _=>?_
 unfold updN rowR
 by_cases e:q=x*2+1
 ·subst e
  have h2:(x*2+1) / 2=x:=by omega
  simp [h2]
 ·rw [if_neg e]
  by_cases h:q%2=0
  ·rw [if_pos h,if_pos h]
  ·rw [if_neg h,if_neg h]
   have hx:q / 2≠x:=by omega
   refine xzbh fun j _=>?_
   unfold partBr
   simp [hx]
theorem xzzg (ms:List (Nat->Bool))(i:Nat)(l:List Nat)(x j:Nat):partBr ms i (l++[x]) j x=(partBr ms i l j x||decide (j=i)):=by
 unfold partBr
 by_cases h1:j<i
 ·have: ¬ j=i:=by omega
  simp [h1,this]
 ·by_cases h2:j=i<;>simp [h2]
theorem xzul (f:Nat->Nat){ms:List (Nat->Bool)}{i:Nat}{m:Nat->Bool}(h:ms[i]? =some m):rowC (rowR f (partBr ms i (mems m 256)))=rowC (rowR f (partBr ms (i+1) [])):=xzda fun q hq=>by
 unfold rowR
 split
 ·rfl
 ·refine xzbh fun j _=>?_
  unfold partBr
  by_cases h1:64*0+j<i
  ·rw [if_pos h1,if_pos (by omega)]
  ·rw [if_neg h1]
   by_cases h2:64*0+j=i
   ·rw [if_pos h2,if_pos (by omega),h2,List.getD_eq_getElem?_getD,h]
    unfold mems;rw [Bool.eq_iff_iff,decide_eq_true_iff,List.mem_filter,List.mem_range];exact⟨fun h=>h.2,fun h=>⟨by omega,h⟩⟩
   ·rw [if_neg h2,if_neg (by omega)]
    simp
theorem xzzh (f:Nat->Nat)(ms:List (Nat->Bool)):rowC (rowR f (partBr ms ms.length []))=rowC (rowR f (allP ms)):=xzda fun q _=>by
 unfold rowR
 split
 ·rfl
 ·refine xzbh fun j _=>?_
  unfold partBr allP
  by_cases h1:64*0+j<ms.length
  ·rw [if_pos h1]
  ·rw [if_neg h1,List.getD_eq_getElem?_getD,List.getElem?_eq_none (by omega)]
   simp
theorem ByteRow.farRow {w:World}{B g i:Nat}{t:TypeId}{R:Nat->Nat}{A:Option Addr}{l:List Nat}(h:ByteRow w B A l)(hb:BlkIs w g t (rowC R))(v:Value):ByteRow (w.setCell ⟨g,i,none⟩ v) B A l:=fun hl=>by
 obtain⟨b,off,rfl,hlt,hc⟩:=h hl
 have hne:b≠g:=fun e=>by
  obtain⟨x,hx⟩:∃ x,l[0]? =some x:=by
   cases l with
   |nil=>exact absurd rfl hl
   |cons x r=>exact⟨x,rfl⟩
  have h0:=hc 0 x hx;rw [e,hb.cell]at h0
  rcases Nat.lt_or_ge (off+0) 512 with h1|h1
  ·rw [xzkf R h1]at h0
   simp at h0
  ·rw [Array.getElem?_eq_none (by rw [xzdh];exact h1)]at h0
   cases h0
 refine⟨b,off,rfl,hlt,fun k x hk=>?_⟩;have:=hc k x hk;unfold World.cell? at this ⊢;rw [Below.heap_setCell w ⟨g,i,none⟩ v b hne];exact this
theorem loadVarW {w:World}{g:Nat}{t:TypeId}{R:Nat->Nat}(h:BlkIs w g t (rowC R)):(loadVar 206 ⟨g,0,none⟩).run Tryz.prog w=.ok (.agg (rowC R)) w:=by
 have:=run_loadVar_mid (P:=Tryz.prog) w g 0 206 (rowC R).toList _ h.range Tryz.underlying206 rfl (by rw [infoW,Array.length_toList,xzdh])
 rwa [Array.toArray_toList]at this
set_option maxRecDepth 100000 in
set_option maxHeartbeats 2000000 in
theorem yzed (f:Nat->Nat)(n:Int)(hf:∀ b,b<256->f b<256)(ms:List (Nat->Bool))(hms:ms.length<=64)(A:Option Addr)(c:Nat)(w:World)(hT:Tab w)(hr:SetRow w w.heap.size A ms):
 Calls Tryz.prog 120 #[.agg (clsC f n),.slice A ms.length c] w fun e w'=>e=.returned (.agg (rowC (rowR f (allP ms))))/\Below w.heap.size w w':=by
 have z:=zeroW;have HF:=zd hf;have HT:=zd hT;have HR:=zd hr;have hb:=((BlkIs.new w 33 (clsC f n)).alloc (.cells (rowC fun _=>0) 206)).alloc (.cells (rowC fun _=>0) 206);have hr0:=(BlkIs.new (w.alloc (.cells (clsC f n) 33)) 206 (rowC fun _=>0)).alloc (.cells (rowC fun _=>0) 206);have hk0:=BlkIs.new ((w.alloc (.cells (clsC f n) 33)).alloc (.cells (rowC fun _=>0) 206)) 206 (rowC fun _=>0);rw [World.size_alloc]at hr0;rw [World.size_alloc,World.size_alloc]at hk0;have hB:=(((Below.refl w.heap.size w).alloc (Nat.le_refl _) (.cells (clsC f n) 33)).alloc (by simp) (.cells (rowC fun _=>0) 206)).alloc (by simp;omega) (.cells (rowC fun _=>0) 206);have HB:=zd hb;have HS:=zd (And.intro hr0 (And.intro hk0 hB));clear hf hT hr hb hr0 hk0 hB
 go_enter Tryz.func120,Tryz.ntmps120
 go_wp2_with(refine xzhc rfl (.tmp 12) rfl rfl HB.out ?_)
 go_loopw [14] (fun s wr=>∃ k:Nat,k<=256/\s=.int .i64 k/\Hid (BlkIs wr (w.heap.size+1) 206 (rowC fun _=>0)/\BlkIs wr (w.heap.size+2) 206 (rowC (rowK f k))/\Below w.heap.size w wr)) (fun s _=>256 - (intOf s).toNat)
 case atStart=>
  refine⟨0,by omega,rfl,zd ⟨HS.out.1,?_,HS.out.2.2⟩⟩
  have e:rowC (rowK f 0)=rowC (fun _=>0):=xzda fun i _=>by
   unfold rowK;rw [if_neg (by omega)]
  rw [e];exact HS.out.2.1
 case round=>
  obtain⟨k,hk,rfl,HH⟩:=hrel
  by_cases hlt:k<256
  ·have hix:=idxO f hlt wr
   have hfk:=HF.out k hlt
   have hw:IntKind.u64.wrap ((f k:Nat):Int)=(f k:Nat):=by rw [IntKind.wrap_u64];omega
   have hc:=(HH.out.2.1.cell (k*2)).trans (xzkf _ (by omega));have hfz:=HH.out.2.1.frozen (k*2)
   have hfin:BlkIs (wr.setCell ⟨w.heap.size+2,k*2,none⟩ (.int .u64 (f k:Nat))) (w.heap.size+1) 206 (rowC fun _=>0)/\BlkIs (wr.setCell ⟨w.heap.size+2,k*2,none⟩ (.int .u64 (f k:Nat))) (w.heap.size+2) 206 (rowC (rowK f (k+1)))/\Below w.heap.size w (wr.setCell ⟨w.heap.size+2,k*2,none⟩ (.int .u64 (f k:Nat))):=by
    refine⟨HH.out.1.far (by simp) _,?_,HH.out.2.2.setCell (by simp) _⟩;have h:=HH.out.2.1.put (k*2) (.int .u64 (f k:Nat))
    rwa [yzea]at h
   have HFI:=zd hfin;clear hfin;go_wp2;exact⟨⟨k+1,by omega,by go_num,HFI⟩,by simp [intOf];omega⟩
  ·obtain rfl:k=256:=by omega
   have HH1:=HH.out;rw [yzeb f ms]at HH1;have H1:=zd HH1;clear HH1 HH HS;go_wp2
   go_loopw [26] (fun s wr=>∃ i:Nat,i<=ms.length/\s=.int .i64 i/\Hid (BlkIs wr (w.heap.size+1) 206 (rowC fun _=>0)/\BlkIs wr (w.heap.size+2) 206 (rowC (rowR f (partBr ms i [])))/\Below w.heap.size w wr)) (fun s _=>ms.length - (intOf s).toNat)
   case atStart=>exact⟨0,by omega,rfl,H1⟩
   case round=>
    clear H1;obtain⟨i,hi,rfl,HH⟩:=hrel
    by_cases hlt:i<ms.length
    ·obtain⟨m,hm⟩:∃ m,ms[i]? =some m:=⟨ms[i],List.getElem?_eq_getElem hlt⟩
     obtain⟨b,off,hA,hbl,hcell⟩:=HR.out (fun e=>by rw [e]at hlt;simp at hlt);have hrng:=xzfz HH.out.2.2 hbl (hcell i m hm);subst hA;have HRG:=zd hrng;have HBM:=zd (xzpg m);clear hrng hcell
     go_wp2_with(refine xzni rfl (.tmp 29) rfl rfl HRG.out ?_)
     refine(HBM.out _ (HT.out.step (HH.out.2.2.alloc HH.out.2.2.size _))).mono ?_;rintro e w2 ⟨A',c',rfl,hbr,hb2⟩;have hs2:Below wr.heap.size wr w2:=((Below.refl _ _).alloc (Nat.le_refl _) _).trans (hb2.mono (by simp));have H2:=zd (And.intro (HH.out.1.step hs2) (And.intro (HH.out.2.1.step hs2) (And.intro (HH.out.2.2.trans (hs2.mono HH.out.2.2.size)) hbr)));have HL:=zd (fun x (hx:x∈mems m 256)=>yzcl hx);have HNX:=zd (xzul f hm);have hlen:=xznb m 256;clear hb2 hs2 hbr HBM HRG HH hm hbl;generalize mems m 256=l at*;go_wp2
     go_loopw [34] (fun s wr=>∃ p:Nat,p<=l.length/\s=.int .i64 p/\Hid (BlkIs wr (w.heap.size+1) 206 (rowC fun _=>0)/\BlkIs wr (w.heap.size+2) 206 (rowC (rowR f (partBr ms i (l.take p))))/\Below w.heap.size w wr/\ByteRow wr w2.heap.size A' l)) (fun s _=>l.length - (intOf s).toNat)
     case atStart=>exact⟨0,by omega,rfl,zd H2.out⟩
     case round=>
      clear H2;obtain⟨p,hp,rfl,HI⟩:=hrel
      by_cases hlp:p<l.length
      ·obtain⟨x,hx⟩:∃ x,l[p]? =some x:=⟨l[p],List.getElem?_eq_getElem hlp⟩
       have hx256:=HL.out x (List.mem_of_getElem? hx);obtain⟨b',off',hA',hbl',hcell'⟩:=HI.out.2.2.2 (fun e=>by rw [e]at hlp;simp at hlp);have g1:=hcell' p x hx;have g2:=(HI.out.2.1.cell (x*2+1)).trans (xzkf _ (by omega))
       have e2:rowR f (partBr ms i (l.take p)) (x*2+1)=wd (fun j=>partBr ms i (l.take p) j x) 0:=by
        unfold rowR;rw [if_neg (by omega),show(x*2+1) / 2=x by omega]
       rw [e2]at g2;have g3:=HI.out.2.1.frozen (x*2+1)
       have hor:bits .or .u64 (wd (fun j=>partBr ms i (l.take p) j x) 0:Nat) (IntKind.u64.wrap (2^i))=(wd (fun j=>partBr ms i (l.take p++[x]) j x) 0:Int):=by
        have:=xzqw (x:=i) (i:=0) (fun j=>xzzg ms i (l.take p) x j) (Nat.div_eq_of_lt (by omega))
        rwa [Nat.mod_eq_of_lt (by omega)]at this
       have htk:l.take (p+1)=l.take p++[x]:=by rw [List.take_add_one,hx];rfl
       have HFI:=zd (show BlkIs (wr.setCell ⟨w.heap.size+2,x*2+1,none⟩ (.int .u64 (wd (fun j=>partBr ms i (l.take p++[x]) j x) 0:Nat))) (w.heap.size+1) 206 (rowC fun _=>0)/\
        BlkIs (wr.setCell ⟨w.heap.size+2,x*2+1,none⟩ (.int .u64 (wd (fun j=>partBr ms i (l.take p++[x]) j x) 0:Nat))) (w.heap.size+2) 206 (rowC (rowR f (partBr ms i (l.take (p+1)))))/\
        Below w.heap.size w (wr.setCell ⟨w.heap.size+2,x*2+1,none⟩ (.int .u64 (wd (fun j=>partBr ms i (l.take p++[x]) j x) 0:Nat)))/\
        ByteRow (wr.setCell ⟨w.heap.size+2,x*2+1,none⟩ (.int .u64 (wd (fun j=>partBr ms i (l.take p++[x]) j x) 0:Nat))) w2.heap.size A' l from by
        refine⟨HI.out.1.far (by simp) _,?_,HI.out.2.2.1.setCell (by simp) _,HI.out.2.2.2.farRow HI.out.2.1 _⟩;have h:=HI.out.2.1.put (x*2+1) (.int .u64 (wd (fun j=>partBr ms i (l.take p++[x]) j x) 0:Nat));rw [yzec]at h;rw [htk]
        exact h)
       subst hA';generalize wd (fun j=>partBr ms i (l.take p) j x) 0=y0 at*;generalize wd (fun j=>partBr ms i (l.take p++[x]) j x) 0=y1 at*;clear hcell' HI htk e2 HL HNX hx;go_wp2
       go_region
       go_wp2;exact⟨⟨p+1,by omega,by go_num,zd ⟨HFI.out.1.drew,HFI.out.2.1.drew,HFI.out.2.2.1.drew,HFI.out.2.2.2⟩⟩,by simp [intOf];omega⟩
      ·obtain rfl:p=l.length:=by omega
       have hi2:=HI.out;rw [List.take_length,HNX.out]at hi2;have HI2:=zd (And.intro hi2.1 (And.intro hi2.2.1 hi2.2.2.1));clear hi2 HI HNX HL;go_wp2
       go_roundw
       case rel=>exact⟨_,_,_,_,_,_,_,_,_,_,_,_,_,_,_,_,_,_,_,_,_,_,_,_,_,_,⟨i+1,by omega,by go_num,HI2⟩,rfl⟩
       case measure=>simp [intOf];omega
    ·obtain rfl:i=ms.length:=by omega
     have hh:=HH.out;rw [xzzh]at hh;have H3:=zd hh;clear hh HH
     go_wp2_with(first
      |refine xznc rfl (.tmp 5) rfl rfl H3.out.2.1 ?_
      |(refine xzam rfl 206 (.tmp 4) (.tmp 49) rfl rfl (new:=rowC (rowR f (allP ms))) rfl H3.out.1 (by rw [xzdh,xzdh]) (by rw [xzdh];exact infoW) (yzdn _) ?_;intro w1 hw1 hwr))
     exact bodyPost_ret (xzae rfl (by simp [Act.put]) (loadVarW hw1)) rfl ⟨rfl,hwr.2.1 _ _ (Nat.le_succ _) H3.out.2.2⟩
end
section
open Go.RowKit
def SeenIs (w:World)(M:Nat)(g:Nat->Nat×Nat)(t:Nat):Prop:=
 ∃ D:DataW Unit,w.ownsMap Tryz.prog 204 (plainElem Tryz.prog 5) M t D/\Maps.size D=cnt g t/\
  (∀ x y,x<18446744073709551616->y<18446744073709551616->Maps.has D (keyL x y)=(List.range t).any fun a=>decide (g a=(x,y)))/\
  (∀ a,a<t->D.atKey (keyL (g a).1 (g a).2) (.lit (.int .u8 0))=.lit (.int .u8 (num g a:Nat)))
theorem SeenIs.kept {w w':World}{M:Nat}{g:Nat->Nat×Nat}{t:Nat}{row:Option Nat}(h:SeenIs w M g t)(hg:w.grownBy w' row)(hne:some M≠row):SeenIs w' M g t:=by
 obtain⟨D,h1,h2⟩:=h;exact⟨D,h1.kept hg hne,h2⟩
theorem SeenIs.lt {w:World}{M:Nat}{g:Nat->Nat×Nat}{t:Nat}(h:SeenIs w M g t):M<w.heap.size:=by
 obtain⟨D,h1,_⟩:=h;exact h1.lt
theorem SeenIs.start (w:World)(g:Nat->Nat×Nat):SeenIs (w.alloc (.map #[] 0)) w.heap.size g 0:=
 ⟨.map [],World.ownsMap_made _ _ _ _,rfl,fun _ _ _ _=>rfl,fun a h=>absurd h (by omega)⟩
theorem zero5 (w:World):(zeroValue 5).run Tryz.prog w=.ok (.int .u8 0) w:=by kernel_rfl
theorem yzee {w:World}{M t:Nat}{g:Nat->Nat×Nat}{D:DataW Unit}(hg:∀ b,b<=t->(g b).1<18446744073709551616/\(g b).2<18446744073709551616)(ho:old g t=true)
 (h1:w.ownsMap Tryz.prog 204 (plainElem Tryz.prog 5) M t D)(h2:Maps.size D=cnt g t)
 (h3:∀ x y,x<18446744073709551616->y<18446744073709551616->Maps.has D (keyL x y)=(List.range t).any fun a=>decide (g a=(x,y)))
 (h4:∀ a,a<t->D.atKey (keyL (g a).1 (g a).2) (.lit (.int .u8 0))=.lit (.int .u8 (num g a:Nat))):
 SeenIs w M g (t+1)/\Maps.has D (keyL (g t).1 (g t).2)=true/\D.atKey (keyL (g t).1 (g t).2) (.lit (.int .u8 0))=.lit (.int .u8 (num g t:Nat)):=by
 obtain⟨a,ha,e⟩:=old_iff.1 ho
 have hat:D.atKey (keyL (g t).1 (g t).2) (.lit (.int .u8 0))=.lit (.int .u8 (num g t:Nat)):=by rw [<-e,h4 a ha,xzha e]
 refine⟨⟨D,h1.mono (Nat.le_succ t),by rw [xzby,ho];exact h2,fun x y hx hy=>?_,fun b hb=>?_⟩,?_,hat⟩
 ·rw [h3 x y hx hy,List.range_succ,List.any_append,Bool.eq_iff_iff]
  simp only [List.any_cons,List.any_nil,Bool.or_false,Bool.or_eq_true,List.any_eq_true,List.mem_range,decide_eq_true_eq];exact⟨fun h=>.inl h,fun h=>h.elim id fun h=>⟨a,ha,e.trans h⟩⟩
 ·rcases Nat.lt_or_ge b t with hlt|hge
  ·exact h4 b hlt
  ·obtain rfl:b=t:=by omega
   exact hat
 ·rw [h3 _ _ (hg t (Nat.le_refl _)).1 (hg t (Nat.le_refl _)).2]
  exact ho
theorem yzef {w w':World}{M t:Nat}{g:Nat->Nat×Nat}{D:DataW Unit}(hg:∀ b,b<=t->(g b).1<18446744073709551616/\(g b).2<18446744073709551616)(ho:old g t=false)
 (h1:w.ownsMap Tryz.prog 204 (plainElem Tryz.prog 5) M t D)(h2:Maps.size D=cnt g t)
 (h3:∀ x y,x<18446744073709551616->y<18446744073709551616->Maps.has D (keyL x y)=(List.range t).any fun a=>decide (g a=(x,y)))
 (h4:∀ a,a<t->D.atKey (keyL (g a).1 (g a).2) (.lit (.int .u8 0))=.lit (.int .u8 (num g a:Nat)))
 (h1':w'.ownsMap Tryz.prog 204 (plainElem Tryz.prog 5) M (t+1) (D.put (keyL (g t).1 (g t).2) (.lit (.int .u8 (num g t:Nat))))):
 SeenIs w' M g (t+1):=by
 have hT:=h1.tidy keyLaw;have hM:=h1.isMap;have hgt:=hg t (Nat.le_refl _)
 have hno:Maps.has D (keyL (g t).1 (g t).2)=false:=by rw [h3 _ _ hgt.1 hgt.2];exact ho
 refine⟨_,h1',?_,fun x y hx hy=>?_,fun b hb=>?_⟩
 ·rw [Maps.size_put hT,hno,xzby,ho,h2];rfl
 ·rw [List.range_succ,List.any_append]
  by_cases e:(x,y)=g t
  ·have e1:x=(g t).1:=congrArg Prod.fst e
   have e2:y=(g t).2:=congrArg Prod.snd e;subst e1;subst e2;rw [Maps.has_put_same hM (yzch _ _)]
   simp
  ·have hne:keyL x y≠keyL (g t).1 (g t).2:=fun h=>by
    obtain⟨e1,e2⟩:=yzcg hx hy hgt.1 hgt.2 h;exact e (by rw [e1,e2])
   rw [Maps.has_put_other hne,h3 x y hx hy]
   have e': ¬ g t=(x,y):=fun h=>e h.symm
   simp [e']
 ·rcases Nat.lt_or_ge b t with hlt|hge
  ·have hne:keyL (g b).1 (g b).2≠keyL (g t).1 (g t).2:=fun h=>by
    obtain⟨e1,e2⟩:=yzcg (hg b (by omega)).1 (hg b (by omega)).2 hgt.1 hgt.2 h;exact(old_not.1 ho) b hlt (Prod.ext e1 e2)
   rw [Maps.atKey_put_other hne,h4 b hlt]
  ·obtain rfl:b=t:=by omega
   rw [Maps.atKey_put_same hM (yzch _ _)]
set_option maxRecDepth 100000 in
set_option maxHeartbeats 1000000 in
theorem xzum (g:Nat->Nat×Nat)(t:Nat)(ht:t<256)(hg:∀ b,b<=t->(g b).1<18446744073709551616/\(g b).2<18446744073709551616)(M B:Nat)(w:World)
 (hbox:BlkIs w B 202 #[.map (some M)])(hs:SeenIs w M g t):
 Calls Tryz.prog 119 #[keyV (g t).1 (g t).2,.pointer (some ⟨B,0,none⟩)] w fun e w'=>e=.returned (.int .u8 (num g t:Nat))/\SeenIs w' M g (t+1)/\w.grownBy w' (some M):=by
 obtain⟨D,h1,h2,h3,h4⟩:=hs;have hkey:=yzdo (hg t (Nat.le_refl _)).1 (hg t (Nat.le_refl _)).2;have hc:=xztd g t
 have hMB:M≠B:=fun e=>by
  obtain⟨es,clock,hb,_⟩:=h1;unfold BlkIs at hbox;rw [e,hbox]at hb
  cases hb
 have hgrow0:=World.grownBy_alloc w (.cells #[.int .u64 (g t).1,.int .u64 (g t).2] 204) none;have hcell:=hbox.cell 0;have hcell1:=(hbox.alloc (.cells #[.int .u64 (g t).1,.int .u64 (g t).2] 204)).cell 0;simp only [zq]at hcell hcell1
 have hwrap:IntKind.u8.wrap ((cnt g t:Nat):Int)=(cnt g t:Nat):=by rw [IntKind.wrap_u8];omega
 cases ho:old g t
 ·have hno:Maps.has D (keyL (g t).1 (g t).2)=false:=by rw [h3 _ _ (hg t (Nat.le_refl _)).1 (hg t (Nat.le_refl _)).2];exact ho
  have hnum:=xzte ho;have HN:=zd (fun w'=>yzef (w':=w') hg ho h1 h2 h3 h4);rw [hnum]at HN ⊢;have H1:=zd h1;have HG:=zd hgrow0;clear h1 h3 h4 hbox hg hgrow0;generalize(g t).1=x at*;generalize(g t).2=y at*
  go_enter Tryz.func119,Tryz.ntmps119
  go_wp2_with(first
   |(at_lookup;refine wpList_lookup_own_ok_int _ rfl _ _ 202 rfl 204 5 .u8 keyLaw Tryz.underlying202 Tryz.underlying5 (zero5 _) M t _ rfl (H1.out.alloc _) _ _ rfl hkey ?_;rw [hno];intro c hat hwc)
   |(at_len;refine wpList_len_own _ rfl _ 202 rfl 204 5 Tryz.underlying202 _ M t _ rfl (H1.out.alloc _) ?_;rw [h2])
   |(at_mapUpdate;refine wpList_mapUpdate_own _ rfl _ _ _ 202 rfl 204 5 keyLaw Tryz.underlying202 _ M t _ rfl (H1.out.alloc _) (by unfold maxLen;omega) _ _ _ rfl rfl hkey _ [] (plainElem_int Tryz.underlying5 (WalkArith.wf_u8 (by omega))) ?_;intro w1 hown1 hgrow1))
  go_ret;exact⟨rfl,HN.out w1 hown1,(HG.out.but _).trans hgrow1⟩
 ·obtain⟨k1,k2,k3⟩:=yzee hg ho h1 h2 h3 h4
  have H1:=zd h1;have HG:=zd hgrow0;have HK:=zd k1;clear h1 h3 h4 hbox hg hgrow0 k1;generalize hx:(g t).1=x at*;generalize hy:(g t).2=y at*
  go_enter Tryz.func119,Tryz.ntmps119
  go_wp2_with(first
   |(at_lookup;refine wpList_lookup_own_ok_int _ rfl _ _ 202 rfl 204 5 .u8 keyLaw Tryz.underlying202 Tryz.underlying5 (zero5 _) M t _ rfl (H1.out.alloc _) _ _ rfl hkey ?_;rw [k2];intro c hat hwc))
  go_ret
  have hc:c=(num g t:Nat):=by
   rw [k3]at hat
   simpa using hat.symm
  exact⟨by rw [hc];rfl,HK.out.kept HG.out (by simp),(HG.out.but _)⟩
end
section
open Go.RowKit
def keyG (f:Nat->Nat)(ms:List (Nat->Bool))(b:Nat):Nat×Nat:=(rowR f (allP ms) (2*b),rowR f (allP ms) (2*b+1))
theorem xznj (f:Nat->Nat)(ms:List (Nat->Bool))(b:Nat):(keyG f ms b).1=f b:=by
 show rowR f (allP ms) (2*b)=f b
 unfold rowR;rw [if_pos (by omega),show 2*b / 2=b by omega]
theorem xznk (f:Nat->Nat)(ms:List (Nat->Bool))(b:Nat):(keyG f ms b).2=wd (fun j=>allP ms j b) 0:=by
 show rowR f (allP ms) (2*b+1)=_
 unfold rowR;rw [if_neg (by omega),show(2*b+1) / 2=b by omega]
theorem keyG_lt (f:Nat->Nat)(hf:∀ b,b<256->f b<256)(ms:List (Nat->Bool))(b:Nat)(hb:b<256):(keyG f ms b).1<18446744073709551616/\(keyG f ms b).2<18446744073709551616:=by
 rw [xznj,xznk];exact⟨Nat.lt_trans (hf b hb) (by decide),xzis _ _⟩
theorem keyG_eq (f:Nat->Nat){ms:List (Nat->Bool)}(hms:ms.length<=64)(a b:Nat):keyG f ms a=keyG f ms b↔f a=f b/\∀ m∈ms,m a=m b:=by
 have hp:keyG f ms a=keyG f ms b↔f a=f b/\wd (fun j=>allP ms j a) 0=wd (fun j=>allP ms j b) 0:=by
  rw [<-xznj f ms a,<-xznj f ms b,<-xznk f ms a,<-xznk f ms b];exact Prod.ext_iff
 rw [hp];refine and_congr Iff.rfl ⟨fun h m hm=>?_,fun h=>xzbh fun j _=>?_⟩
 ·obtain⟨j,hj,e⟩:=List.mem_iff_getElem.1 hm
  have:=xzqu h (j:=j) (by omega);unfold allP at this;rw [Nat.mul_zero,Nat.zero_add,List.getD_eq_getElem?_getD,List.getElem?_eq_getElem hj,e]at this;exact this
 ·unfold allP
  rw [Nat.mul_zero,Nat.zero_add,List.getD_eq_getElem?_getD]
  rcases Nat.lt_or_ge j ms.length with hj|hj
  ·rw [List.getElem?_eq_getElem hj]
   exact h _ (List.getElem_mem hj)
  ·rw [List.getElem?_eq_none hj];rfl
theorem xzlq (W:World)(b o:Nat)(v:Value):W.grownBy (W.setCell ⟨b,o,none⟩ v) (some b):=
 ⟨rfl,rfl,rfl,Nat.le_of_eq (World.size_setCell _ _ _).symm,fun i _ hi=>Below.heap_setCell W ⟨b,o,none⟩ v i (fun e=>hi (by rw [e]))⟩
def numTo (g:Nat->Nat×Nat)(f:Nat->Nat)(t i:Nat):Nat:=if i<t then num g i else f i
theorem xzzi (g:Nat->Nat×Nat)(f:Nat->Nat)(n:Int){t:Nat}(ht:t<256):(clsC (numTo g f t) n).setIfInBounds t (.int .u8 (num g t:Nat))=clsC (numTo g f (t+1)) n:=by
 rw [yzdm _ _ ht]
 refine xzdt n fun i _=>?_
 unfold updN numTo
 by_cases e:i=t
 ·subst e;simp
 ·rw [if_neg e]
  by_cases h:i<t
  ·rw [if_pos h,if_pos (by omega)]
  ·rw [if_neg h,if_neg (by omega)]
set_option maxRecDepth 100000 in
set_option maxHeartbeats 2000000 in
theorem xzzj (f:Nat->Nat)(n:Int)(hf:∀ b,b<256->f b<256)(ms:List (Nat->Bool))(hms:ms.length<=64)(A:Option Addr)(c:Nat)(w:World)(hT:Tab w)(hr:SetRow w w.heap.size A ms):
 Calls Tryz.prog 102 #[.agg (clsC f n),.slice A ms.length c] w fun e w'=>e=.returned (.agg (clsC (num (keyG f ms)) (cnt (keyG f ms) 256:Nat)))/\Below w.heap.size w w':=by
 have z:=zeroC;have hmm:= @run_makeMap Tryz.prog;have HRW:=zd (yzed f n hf ms hms A c);have HK:=zd (keyG_lt f hf ms);have HT:=zd hT;have HR:=zd hr;obtain⟨W0,hW0⟩:∃ W0,W0=(((w.alloc (.cells (clsC f n) 33)).alloc (.cells (clsC (fun _=>0) 0) 33)).alloc (.map #[] 0)).alloc (.cells #[.map (some (w.heap.size+1+1))] 202):=⟨_,rfl⟩
 have hb:BlkIs W0 w.heap.size 33 (clsC f n):=by rw [hW0];exact(((BlkIs.new w _ _).alloc _).alloc _).alloc _
 have hz0:BlkIs W0 (w.heap.size+1) 33 (clsC (fun _=>0) 0):=by
  have:=(((BlkIs.new (w.alloc (.cells (clsC f n) 33)) 33 (clsC (fun _=>0) 0)).alloc (.map #[] 0)).alloc (.cells #[.map (some (w.heap.size+1+1))] 202));rw [World.size_alloc]at this;rw [hW0];exact this
 have hbx:BlkIs W0 (w.heap.size+3) 202 #[.map (some (w.heap.size+2))]:=by
  have:=BlkIs.new (((w.alloc (.cells (clsC f n) 33)).alloc (.cells (clsC (fun _=>0) 0) 33)).alloc (.map #[] 0)) 202 #[.map (some (w.heap.size+2))];rw [World.size_alloc,World.size_alloc,World.size_alloc]at this;rw [hW0];exact this
 have hsn:SeenIs W0 (w.heap.size+2) (keyG f ms) 0:=by
  have:=SeenIs.start ((w.alloc (.cells (clsC f n) 33)).alloc (.cells (clsC (fun _=>0) 0) 33)) (keyG f ms);rw [World.size_alloc,World.size_alloc]at this;rw [hW0];exact this.kept (World.grownBy_alloc _ _ none) (by simp)
 have hBe:Below w.heap.size w W0:=by
  rw [hW0];exact((((Below.refl w.heap.size w).alloc (Nat.le_refl _) _).alloc (by simp) _).alloc (by simp;omega) _).alloc (by simp;omega) _
 have HB:=zd hb;have HS:=zd (And.intro hz0 (And.intro hbx (And.intro hsn hBe)));clear hf hT hr hb hz0 hbx hsn hBe;subst hW0
 go_enter Tryz.func102,Tryz.ntmps102
 go_wp2_with(first
  |refine xzbo rfl (.tmp 2) rfl rfl HB.out ?_
  |(go_at_call 120;refine(HRW.out _ (HT.out.step HS.out.2.2.2) ((HR.out.below HS.out.2.2.2).wide HS.out.2.2.2.size)).mono ?_;rintro e w2 ⟨rfl,hb2⟩))
 have hs2:=HS.out;have H2:=zd (And.intro (HB.out.step hb2) (And.intro (hs2.1.step hb2) (And.intro (hs2.2.1.step hb2) (And.intro (hs2.2.2.1.kept (row:=none) ⟨hb2.os,hb2.tape,hb2.output,hb2.size,fun i hi _=>hb2.block i hi⟩ (by simp)) (hs2.2.2.2.trans (hb2.mono hs2.2.2.2.size))))));clear hs2 HB HS hb2 HRW;generalize hR:rowR f (allP ms)=R at*
 have hkg:∀ b,keyG f ms b=(R (2*b),R (2*b+1)):=fun b=>by unfold keyG;rw [hR]
 generalize hgk:keyG f ms=g at*;go_wp2
 go_loopw [14] (fun s wr=>∃ t:Nat,t<=256/\s=.int .i64 t/\Hid (BlkIs wr w.heap.size 33 (clsC (numTo g f t) n)/\BlkIs wr (w.heap.size+1) 33 (clsC (fun _=>0) 0)/\
  BlkIs wr (w.heap.size+3) 202 #[.map (some (w.heap.size+2))]/\SeenIs wr (w.heap.size+2) g t/\Below w.heap.size w wr)) (fun s _=>256 - (intOf s).toNat)
 case atStart=>
  refine⟨0,by omega,rfl,zd ⟨?_,H2.out.2⟩⟩;rw [xzdt (f':=f) n (fun b _=>by unfold numTo;rw [if_neg (by omega)])];exact H2.out.1
 case round=>
  obtain⟨t,ht,rfl,HH⟩:=hrel
  by_cases hlt:t<256
  ·have hix:=idxW R hlt wr
   have HNA:=zd (xzum g t hlt (fun b hb=>HK.out b (by omega)) (w.heap.size+2) (w.heap.size+3) (wr.alloc (.cells #[.int .u64 (R (2*t)),.int .u64 (R (2*t+1))] 204)) (HH.out.2.2.1.alloc _) (HH.out.2.2.2.1.kept (World.grownBy_alloc _ _ none) (by simp)));rw [hkg t]at HNA;generalize R (2*t)=x at*;generalize R (2*t+1)=y at*
   go_wp2_with(first
    |(go_at_call 119;refine HNA.out.mono ?_;rintro e w3 ⟨rfl,hs3,hg3⟩;have hc3:=xzhl (HH.out.1.alloc _) hg3 (by simp);have hcc:=clsBy hc3 hlt;have hcf:=hc3.frozen t))
   have h2:=(xzhl (HH.out.2.1.alloc _) hg3 (by simp)).far (p:=⟨w.heap.size,t,none⟩) (by simp) (.int .u8 (num g t:Nat));have h3:=(xzhl (HH.out.2.2.1.alloc _) hg3 (by simp)).far (p:=⟨w.heap.size,t,none⟩) (by simp) (.int .u8 (num g t:Nat));have h1:=hc3.put t (.int .u8 (num g t:Nat));rw [xzzi g f n hlt]at h1;have h4:=hs3.kept (xzlq w3 w.heap.size t (.int .u8 (num g t:Nat))) (by simp);have hsz:=HH.out.2.2.2.2.size;have h5:=(((HH.out.2.2.2.2.alloc hsz _).grown hg3 (by simp;omega) (fun k e=>by cases e;omega)).setCell (p:=⟨w.heap.size,t,none⟩) (Nat.le_refl _) (.int .u8 (num g t:Nat)));exact⟨⟨t+1,by omega,by go_num,zd ⟨h1,h2,h3,h4,h5⟩⟩,by simp [intOf];omega⟩
  ·obtain rfl:t=256:=by omega
   obtain⟨h1,h2,h3,h4,h5⟩:=HH.out;obtain⟨D,d1,d2,_,_⟩:=h4;have hc0:=h3.cell 0;simp only [zq]at hc0;have hcn:=(h1.cell 256).trans (xztj _ n);have hfn:=h1.frozen 256;have k1:=h1.put 256 (.int .i64 (cnt g 256:Nat));rw [xzyk,xzdt (f':=num g) _ (fun b hb=>by unfold numTo;rw [if_pos hb])]at k1;have k2:=h2.far (p:=⟨w.heap.size,256,none⟩) (by simp) (.int .i64 (cnt g 256:Nat));have k5:=h5.setCell (p:=⟨w.heap.size,256,none⟩) (Nat.le_refl _) (.int .i64 (cnt g 256:Nat));have HD:=zd d1;have H9:=zd (And.intro k1 (And.intro k2 k5));clear h1 h2 h3 h5 d1 k1 k2 k5 HH H2 HK
   go_wp2_with(first
    |(at_len;refine wpList_len_own _ rfl _ 202 rfl 204 5 Tryz.underlying202 _ (w.heap.size+2) 256 _ rfl HD.out ?_;rw [d2])
    |refine xzbo rfl (.tmp 2) rfl rfl H9.out.1 ?_
    |(refine xzam rfl 33 (.tmp 4) (.tmp 28) rfl rfl (new:=clsC (num g) (cnt g 256:Nat)) rfl H9.out.2.1 (by rw [xzaj,xzaj]) (by rw [xzaj];exact infoC) (xzej _ _) ?_;intro w4 hw4 hwr))
   exact bodyPost_ret (xzae rfl (by simp [Act.put]) (loadVarC hw4)) rfl ⟨by rw [hgk],hwr.2.1 _ _ (Nat.le_succ _) H9.out.2.2⟩
end
section
open Go.RowKit
def KeepsBut (g:Nat)(W W':World):Prop:=∀ (k:Nat) (t:TypeId) (cs:Array Value),k≠g->BlkIs W k t cs->BlkIs W' k t cs
theorem KeepsBut.trans {g:Nat}{A B C:World}(h:KeepsBut g A B)(k:KeepsBut g B C):KeepsBut g A C:=fun i t cs hi hb=>k i t cs hi (h i t cs hi hb)
theorem xzhm (g:Nat)(W:World)(l:Nat)(o o':Obj)(hl:W.heap[l]? =some o)(ho:o.isCells=false):KeepsBut g W (W.putObj l o'):=fun k t cs _ hb=>by
 have hne:k≠l:=fun e=>by
  subst e;unfold BlkIs at hb;rw [hb]at hl
  cases hl
  cases ho
 exact(World.putObj_heap_other hne).trans hb
theorem xzun (W:World)(row:Option Nat):W.grownBy W.drew row:=⟨rfl,rfl,rfl,Nat.le_refl _,fun _ _ _=>rfl⟩
attribute [local go_sem] Oper.semAt_some
def ChunkIs (v:Value)(k:Int)(w:World):Ending->World->Prop:=fun e w'=>
 ∃ B1 B2,e=.returned (.func (.func 118) #[] #[.pointer (some ⟨B1,0,none⟩),.pointer (some ⟨B2,0,none⟩)])/\BlkIs w' B1 84 #[v]/\BlkIs w' B2 3 #[.int .i64 k]/\w.heap.size<=B1/\w.heap.size<=B2/\Below w.heap.size w w'
set_option maxHeartbeats 400000 in
theorem xzpr (A:Option Addr)(len cap:Nat)(w:World):Calls Tryz.prog 101 #[.slice A len cap,.int .i64 64] w (ChunkIs (.slice A len cap) 64 w):=by
 go_enter Tryz.func101,Tryz.ntmps101
 go_wp2;go_ret;have h2:=BlkIs.new (w.alloc (.cells #[.slice A len cap] 84)) 3 #[.int .i64 64];rw [World.size_alloc]at h2;exact⟨w.heap.size,w.heap.size+1,rfl,(BlkIs.new _ _ _).alloc _,h2,Nat.le_refl _,Nat.le_succ _,((Below.refl _ _).alloc (Nat.le_refl _) _).alloc (by simp) _⟩
theorem xzrd (n:Nat)(l B1 B2 c:Nat)(A:Option Addr)(J:World->Prop)
 (W:World)(hb1:BlkIs W B1 84 #[.slice A 0 c])(hJ:J W):
 CallsIn Fence.wide n Tryz.prog 118 #[.func (.yield l) #[] #[],.pointer (some ⟨B1,0,none⟩),.pointer (some ⟨B2,0,none⟩)] W fun e W'=>(∃ v,e=.returned v)/\J W':=by
 have c1:=hb1.cell 0;simp only [zq]at c1;refine callsIn_of_wp Tryz.func118 rfl trivial ?_ rfl;simp only [Tryz.ntmps118,List.size_toArray,List.length_cons,List.length_nil,Nat.reduceAdd,Nat.reduceSub,Array.replicate_succ,Array.replicate_zero,List.push_toArray,List.append_toArray,List.nil_append,List.cons_append]
 gi_wp2
 gi_loopw [4] (fun s wr=>s=.int .i64 0/\wr=W) (fun _ _=>0)
 case atStart=>exact⟨rfl,rfl⟩
 case round=>
  obtain⟨rfl,rfl⟩:=hrel
  gi_wp2
  go_end0
  exact⟨⟨_,rfl⟩,hJ⟩
end
section
open Go.RowKit
def saysG (ms:List (Nat->Bool))(b:Nat):List Bool:=ms.map fun m=>m b
theorem xzuo (ms:List (Nat->Bool))(a b:Nat):saysG ms a=saysG ms b↔ ∀ m∈ms,m a=m b:=by
 unfold saysG;exact List.map_inj_left
theorem xznl:∀ b,cnt (saysG []) (b+1)=1
 |0=>by decide
 |b+1=>by
  have h:old (saysG []) (b+1)=true:=old_iff.2 ⟨0,by omega,rfl⟩;rw [xzby,xznl b,h]
  rfl
theorem xzup (b:Nat):num (saysG []) b=0:=by
 have h:fst' (saysG []) b=0:=xzkc rfl (fun j hj=>absurd hj (by omega));unfold num;rw [h]
 rfl
theorem yzeg:clsC (fun _=>0) 1=clsC (num (saysG [])) (cnt (saysG []) 256:Nat):=by
 rw [xznl 255]
 exact xzdt _ fun b _=>(xzup b).symm
section
variable {F : Fence} {nF : Nat} {P : Program} {ops : Array Oper} {rest : List Oper} {o : Oper} {a : Act} {w : World} {Q : Exit → Act → World → Prop}
theorem xzgh (hg:o.guard=none)(ty:TypeId)(x:Operand)(hop:o.op=Op.load ty x){p v:Value}(hx:a.eval x=p)(hrun:(Instr.loadAt ty p).run P w=.ok v w)(h:wpListIn F nF P ops Q rest (a.put o.dst v) w):wpListIn F nF P ops Q (o::rest) a w:=by
 refine wpListIn_plain hg fun K' hK'=>?_
 unfold Oper.wpIn;refine⟨by simp [Oper.about,hop],?_⟩;rw [Oper.semAt_plain F _ _ (by rw [hop];intro c hc';cases hc')];simp only [execOp,hop,hx,Sem.run_bind,Sem.run_pure,hrun,Result.andThen_ok];exact hK' _ _ h
theorem xzfi (hg:o.guard=none)(ty:TypeId)(x y:Operand)(hop:o.op=Op.store ty x y){p v:Value}{w':World}(hx:a.eval x=p)(hy:a.eval y=v)(hrun:(Instr.storeAt ty p v).run P w=.ok () w')(h:wpListIn F nF P ops Q rest (a.put o.dst undef) w'):wpListIn F nF P ops Q (o::rest) a w:=by
 refine wpListIn_plain hg fun K' hK'=>?_
 unfold Oper.wpIn;refine⟨by simp [Oper.about,hop],?_⟩;rw [Oper.semAt_plain F _ _ (by rw [hop];intro c hc';cases hc')];simp only [execOp,hop,hx,hy,Sem.run_bind,Sem.run_pure,hrun,Result.andThen_ok];exact hK' _ _ h
end
theorem xznm (n:Nat)(G B1 B2 c:Nat)(A:Option Addr)(w:World)(hb1:BlkIs w B1 84 #[.slice A 0 c]):
 SeqStopsK Fence.wide n Tryz.prog 118 #[.pointer (some ⟨B1,0,none⟩),.pointer (some ⟨B2,0,none⟩)] (fun _:Unit=>#[.slice A 0 0]) (KeepsBut G) (fun xs:List Unit=>xs.length=0) (fun pre:List Unit=>pre.length=0) 0 w:=
 fun l J _ W hW _ _ _ h0'=>(xzrd n l B1 B2 c A (fun W'=>J [] W') W (hb1.step hW) h0').mono fun _ _ h=>⟨h.1,.inl ⟨[],rfl,h.2⟩⟩
attribute [local go_sem] Oper.semAt_some
set_option maxRecDepth 100000 in
set_option maxHeartbeats 2000000 in
theorem xzzk (A:Option Addr)(c:Nat)(w:World):
 Calls Tryz.prog 82 #[.slice A 0 c] w fun e w'=>e=.returned (.agg (clsC (num (saysG [])) (cnt (saysG []) 256:Nat)))/\Below w.heap.size w w':=by
 rw [<-yzeg];have z:=zeroC;have hz0:=(BlkIs.new w 33 (clsC (fun _=>0) 0)).alloc (.cells (clsC (fun _=>0) 0) 33);have hg0:=BlkIs.new (w.alloc (.cells (clsC (fun _=>0) 0) 33)) 33 (clsC (fun _=>0) 0);rw [World.size_alloc]at hg0;have hB0:=((Below.refl w.heap.size w).alloc (Nat.le_refl _) (.cells (clsC (fun _=>0) 0) 33)).alloc (by simp) (.cells (clsC (fun _=>0) 0) 33);have H0:=zd (And.intro hz0 (And.intro hg0 hB0));clear hz0 hg0 hB0;refine(callsIn_wide (n:=5)).1 ?_;refine callsIn_of_wp_marks Tryz.func82 rfl trivial ?_ rfl;simp only [Tryz.ntmps82,List.size_toArray,List.length_cons,List.length_nil,Nat.reduceAdd,Nat.reduceSub,Array.replicate_succ,Array.replicate_zero,List.push_toArray,List.append_toArray,List.nil_append,List.cons_append];refine wpIn_wide.2 ?_
 go_wp2_with(first
  |refine xzaz rfl 33 _ rfl (cells:=clsC (fun _=>0) 1) (by simpa [Act.eval]using xzpe) ?_
  |(refine xzam rfl 33 (.tmp 3) (.tmp 5) rfl rfl (new:=clsC (fun _=>0) 1) rfl H0.out.2.1 (by rw [xzaj,xzaj]) (by rw [xzaj];exact infoC) (xzej _ _) ?_;intro w1 hw1 hwr)
  |(go_at_call 101;go_must(refine(xzpr _ _ _ _).mono ?_);rintro e w2 ⟨B1,B2,rfl,hx1,hx2,hl1,hl2,hb2⟩))
 have hBw1:Below w.heap.size w w1:=hwr.2.1 _ _ (Nat.le_succ _) H0.out.2.2
 have hlw:w1.heap.size=w.heap.size+2:=by rw [hwr.2.2];simp
 have hBw2:=hBw1.trans (hb2.mono hBw1.size);have H2:=zd (And.intro ((hwr.blk (by omega) H0.out.1).step hb2) (And.intro (hw1.step hb2) hBw2))
 have hGw2:w.heap.size+2<=w2.heap.size:=by have:=hb2.size;omega
 have HX:=zd (And.intro hx1 hx2);have hcs:=HX.out;clear hBw1 hBw2 hw1 hwr hx1 hx2 hb2 H0 hl1 hl2 hlw;refine(wpIn_wide (n:=5)).1 ?_
 refine wpIn_rangeFunc_ownG rfl (by omega) (gf:=118) (lb:=#[.pointer (some ⟨B1,0,none⟩),.pointer (some ⟨B2,0,none⟩)]) rfl trivial
  (enters_of Tryz.func118 (by kernel_rfl) rfl)
  (xznm _ (w.heap.size+1) B1 B2 c A w2 hcs.1) KeepsBut.trans (fun W l o o' _ hl ho _=>xzhm _ W l o o' hl ho) (Below.refl _ _) (fun _=>rfl)
  (fun _ W=>BlkIs W w.heap.size 33 (clsC (fun _=>0) 0)/\BlkIs W (w.heap.size+1) 33 (clsC (fun _=>0) 1)/\Below w.heap.size w W)
  (fun _ _ _=>False) ?hI (fun _ _ _ _ _ h _ _=>h) ⟨H2.out.1,H2.out.2.1,H2.out.2.2⟩
  (fun _=>{tmps:=#[.slice A 0 c,undef,.pointer (some ⟨w.heap.size,0,none⟩),.pointer (some ⟨w.heap.size+1,0,none⟩),.slice A 0 0,.agg (clsC (fun _=>0) 1),
   .slice A 0 c,.func (.func 118) #[] #[.pointer (some ⟨B1,0,none⟩),.pointer (some ⟨B2,0,none⟩)],.slice A 0 0,undef,undef,undef,undef],defers:=[]}) ?assign ?body ?done ?stop
 case hI=>
  rintro s A A' row ⟨h1,h2,h3⟩ hg hro
  have hr':∀ r,row=some r->∃ o:Obj,A.heap[r]? =some o/\o.isCells=false:=fun r e=>(hro r e).2
  exact⟨xzfx h1 hg hr',xzfx h2 hg hr',ownFrom_below (β:=Unit) (Nat.le_refl _) (by omega) () A A' row h3 hg hro⟩
 case assign=>
  intro l x W K hK
  gi_wp2
  exact hK
 case body=>
  rintro l pre x W _ hlt;exact absurd hlt (by omega)
 case done=>
  rintro D xs W hD hS ⟨h1,h2,h3⟩ hK;have H1:=zd (And.intro h1 (And.intro h2 h3));clear h1 h2 h3
  go_wp2_with(first
   |refine xzbo rfl (.tmp 3) rfl rfl H1.out.2.1 ?_
   |(refine xzam rfl 33 (.tmp 2) (.tmp 12) rfl rfl (new:=clsC (fun _=>0) 1) rfl H1.out.1 (by rw [xzaj,xzaj]) (by rw [xzaj];exact infoC) (xzej _ _) ?_;intro w5 hw5 hwr5))
  have hK5:=(hwr5.1 D (by omega)).trans hK;have hfin:BlkIs (w5.putObj D (.deferred none)) w.heap.size 33 (clsC (fun _=>0) 1):=(World.putObj_heap_other (by omega)).trans hw5;have hBe:=(hwr5.2.1 _ _ (Nat.le_refl _) H1.out.2.2).trans (belowK_b (w:=w) (Nat.le_refl _) w5 D _ (.deferred none) (by omega) hK5 rfl rfl);refine⟨by simp,.inl ⟨_,_,rfl,run_takeDeferred hK5,?_⟩⟩;exact⟨_,xzae rfl (by simp) (loadVarC hfin),rfl,hBe⟩
 case stop=>
  rintro D c pre W _ _ h _;exact h.elim
end
section
open Go.RowKit
def mk0 (v0 v1 v2 v3 v4:Value)(em:Int)(M:Nat):MkV:={of:=fun _=>0,n:=0,next:=.slice none 0 0,tag:=.slice none 0 0,v0:=v0,v1:=v1,v2:=v2,v3:=v3,v4:=v4,em:=em,fol:=.slice none 0 0,tak:=.slice none 0 0,sts:=.slice none 0 0,nums:=.map (some M),reach:=fun _=>false}
theorem yzeh (A0 A1 A2 A3 A4:Option Addr)(n0 n1 n2 n3 n4 c0 c1 c2 c3 c4:Nat)(em:Int)(M:Nat):Tryz.prog.built 129 [(1,.agg #[.slice A0 n0 c0,.slice A1 n1 c1,.slice A2 n2 c2,.slice A3 n3 c3,.slice A4 n4 c4,.int .i64 em]),(5,.map (some M))]=
 some (cellsN 301 (mkF (mk0 (.slice A0 n0 c0) (.slice A1 n1 c1) (.slice A2 n2 c2) (.slice A3 n3 c3) (.slice A4 n4 c4) em M))):=by
 kernel_rfl
theorem BlkF.putsL {g:Nat}{t:TypeId}{N:Nat}:∀ (vs:List Value) (o:Nat) (W:World) (F:Nat->Value),BlkF W g t N F->BlkF (W.setCells g o vs) g t N (fun i=>if o<=i/\i<o+vs.length then vs.getD (i - o) undef else F i)
 |[],o,W,F,h=>by
  have e:(fun i=>if o<=i/\i<o+([]:List Value).length then([]:List Value).getD (i - o) undef else F i)=F:=by funext i;rw [if_neg (by simp)]
  rw [e];exact h
 |v::r,o,W,F,h=>by
  rw [World.setCells];have:=BlkF.putsL r (o+1) _ _ (h.put o v)
  have e:(fun i=>if o+1<=i/\i<o+1+r.length then r.getD (i - (o+1)) undef else putV F o v i)=(fun i=>if o<=i/\i<o+(v::r).length then(v::r).getD (i - o) undef else F i):=by
   funext i;unfold putV
   rw [List.length_cons]
   by_cases h1:i=o
   ·subst h1;rw [if_neg (by omega),if_pos rfl,if_pos (by omega),Nat.sub_self];rfl
   ·by_cases h2:o+1<=i/\i<o+1+r.length
    ·rw [if_pos h2,if_pos (by omega),show i - o=(i - (o+1))+1 by omega,List.getD_cons_succ]
    ·rw [if_neg h2,if_neg h1,if_neg (by omega)]
  rw [e]at this;exact this
theorem putsC (V:MkV)(f:Nat->Nat)(n:Nat){W:World}{g:Nat}(h:BlkF W g 129 301 (mkF V)):BlkF (W.setCells g 0 (clsC f (n:Nat)).toList) g 129 301 (mkF {V with of:=f,n:=n}):=by
 have h1:=BlkF.putsL (clsC f (n:Nat)).toList 0 W (mkF V) h
 have hl:(clsC f (n:Nat)).toList.length=257:=by rw [Array.length_toList,xzaj]
 have e:cellsN 301 (fun i=>if 0<=i/\i<0+(clsC f (n:Nat)).toList.length then(clsC f (n:Nat)).toList.getD (i - 0) undef else mkF V i)=cellsN 301 (mkF {V with of:=f,n:=n}):=xzap fun i hi=>by
  rw [hl]
  by_cases h2:i<257
  ·rw [if_pos (by omega),Nat.sub_zero,List.getD_eq_getElem?_getD,Array.getElem?_toList]
   unfold mkF
   by_cases h3:i<256
   ·rw [xzlg f _ h3,if_pos h3];rfl
   ·have:i=256:=by omega
    subst this;rw [xztj];rfl
  ·rw [if_neg (by omega)]
   have a: ¬ i<256:=by omega
   have b: ¬ i=256:=by omega
   unfold mkF;simp only [if_neg a,if_neg b]
 unfold BlkF at h1 ⊢;rw [<-e];exact h1
end
end Go.Proofs.YtdjpphjpnkfeiaaGreatDoor
