/-
 WHAT hackleref04's Void AND Sets ANSWER, at every tree that may be: contracts. Condition: each node of the tree may be.
-/
import Derived.Laws.CopyOwn
import Derived.Deep.OwnRows
import Derived.Lib.ItoaWalk
import Derived.Deep.RegionHeld3
import Derived.IntWalk
import Derived.Test.YtgjfhbpmahgfcaaDoorQG05
import Derived.Test.YtgjfhbpmahgfcaaDoorQG06
import Derived.Test.YtgjfhbpmahgfcaaDoorQG08
namespace Go.Proofs.YtgjfhbpmahgfcaaDoor
section
open Go.RowKit
theorem xzfr {k:Int}{m:Nat->Bool}{n:Nat}{lo hi:Int}(h:okNode k m n lo hi=true):
 (k=0/\n=0)\/(k=1/\n=0)\/(k=2/\2<=n)\/(k=3/\2<=n)\/(k=4/\n=1/\0<=lo/\lo<=64/\(hi= -1\/lo<=hi/\hi<=64)):=by
 unfold okNode at h
 split at h
 ·cases h
 ·split at h
  ·rename_i h2;have:=of_decide_eq_true h;omega
  ·split at h
   ·rename_i h2;have:=of_decide_eq_true h;omega
   ·split at h
    ·have:=of_decide_eq_true h;omega
    ·cases h
theorem xzkf {k:Int}{m:Nat->Bool}{l:List Tree}{lo hi:Int}(h:Tree.ok (.node k m l lo hi)=true):(∀ t∈l,t.ok=true)/\okNode k m l.length lo hi=true:=by
 unfold Tree.ok at h;rw [Bool.and_eq_true,allOk_iff]at h;exact h
mutual
def Tree.void:Tree->Bool
 | .node k m l lo _=>if k=0 then false else if k=1 then setEq m (fun _=>false)else if k=2 then anyVoid l else if k=3 then allVoid l else(decide (0<lo)&&headVoid l)
def anyVoid:List Tree->Bool
 |[]=>false
 |t::r=>t.void||anyVoid r
def allVoid:List Tree->Bool
 |[]=>true
 |t::r=>t.void&&allVoid r
def headVoid:List Tree->Bool
 |[]=>false
 |t::_=>t.void
end
end
section
open Go.RowKit
def stepB (m:Nat->Bool)(s:List UInt8)(f:Nat->Bool):Nat->Bool
 |0=>false
 |i+1=>f i&&(match s[i]? with|some c=>m c.toNat|none=>false)
def orB (f g:Nat->Bool):Nat->Bool:=fun i=>f i||g i
def mostOf (s:List UInt8)(lo hi:Int):Nat:=if hi<0 then lo.toNat+s.length+1 else hi.toNat
def iterE (E:(Nat->Bool)->Nat->Bool):Nat->(Nat->Bool)->Nat->Bool
 |0,f=>f
 |n+1,f=>E (iterE E n f)
def repTo (E:(Nat->Bool)->Nat->Bool)(lo most:Nat)(f:Nat->Bool):Nat->Bool:=fun i=>(List.range most).any fun n=>decide (lo<=n)&&iterE E n f i
mutual
def Tree.ends (s:List UInt8):Tree->(Nat->Bool)->Nat->Bool
 | .node k m l lo hi=>fun f=>if k=0 then f else if k=1 then stepB m s f else if k=2 then endsCat s l f else if k=3 then endsAlt s l f else repTo (headEnds s l) lo.toNat (mostOf s lo hi+1) f
def endsCat (s:List UInt8):List Tree->(Nat->Bool)->Nat->Bool
 |[]=>fun f=>f
 |t::r=>fun f=>endsCat s r (t.ends s f)
def endsAlt (s:List UInt8):List Tree->(Nat->Bool)->Nat->Bool
 |[]=>fun _ _=>false
 |t::r=>fun f=>orB (t.ends s f) (endsAlt s r f)
def headEnds (s:List UInt8):List Tree->(Nat->Bool)->Nat->Bool
 |[]=>fun f=>f
 |t::_=>t.ends s
end
end
section
open Go.RowKit
end
section
open Go.RowKit
def hide (W:World)(H:Nat->Bool):World:={W with heap:=W.heap.mapIdx fun k o=>if H k then .deferred none else o}
theorem xzeg (W:World)(H:Nat->Bool)(k:Nat):(hide W H).heap[k]? =(W.heap[k]?).map fun o=>if H k then .deferred none else o:=by
 unfold hide;simp
theorem xziw {W:World}{H:Nat->Bool}{p:Addr}{v:Value}(h:(hide W H).cell? p=some v):H p.block=false/\W.cell? p=some v:=by
 cases e:H p.block
 ·refine⟨rfl,?_⟩
  rw [<-h];refine(World.cell?_of_block (w:=W) ?_).symm;rw [xzeg]
  simp [e]
 ·exfalso
  unfold World.cell? at h;rw [xzeg,e]at h
  cases hb:W.heap[p.block]? with
  |none=>rw [hb]at h;cases h
  |some x=>rw [hb]at h;cases h
theorem xzix {W:World}{H:Nat->Bool}{p:Addr}{v:Value}(e:H p.block=false)(h:W.cell? p=some v):(hide W H).cell? p=some v:=by
 rw [<-h];refine World.cell?_of_block (w:=W) ?_;rw [xzeg]
 simp [e]
theorem xzhe {W W':World}{H H':Nat->Bool}(h:∀ k,H k=false->k<W.heap.size->H' k=false/\W'.heap[k]? =W.heap[k]?):Sub (hide W H) (hide W' H'):=fun p v hv=>by
 obtain⟨h1,h2⟩:=xziw hv;obtain⟨h3,h4⟩:=h _ h1 (World.block_lt_of_cell? W p h2);exact xzix h3 ((World.cell?_of_block (w:=W) h4).trans h2)
def low (n k:Nat):Bool:=decide (k<n)
theorem low_no {n k:Nat}:low n k=false↔n<=k:=by unfold low;simp
end
section
open Go.Shelf Go.RowKit
def addW (acc:List UInt8)(x:ByteArray):List UInt8:=(if x.data.toList.isEmpty||acc.isEmpty then acc else acc++[32])++x.data.toList
def wordsL (xs:List ByteArray):List UInt8:=xs.foldl addW []
def lenW:List ByteArray->Nat
 |[]=>0
 |x::r=>x.size+1+lenW r
theorem xzlj (acc:List UInt8)(x:ByteArray):(addW acc x).length<=acc.length+1+x.size:=by
 unfold addW
 have:x.data.toList.length=x.size:=by rw [Array.length_toList];rfl
 split<;>simp<;>omega
theorem xzeh:∀ (xs:List ByteArray) (j:Nat) (h:j<xs.length),lenW (xs.take (j+1))=lenW (xs.take j)+xs[j].size+1
 |[],j,h=>by simp at h
 |x::r,0,_=>by simp [lenW]
 |x::r,j+1,h=>by
  have:=xzeh r j (by simpa using h);simp only [List.take_succ_cons,lenW,List.getElem_cons_succ,this];omega
theorem xzcx:∀ (xs:List ByteArray) (j:Nat),lenW (xs.take j)<=lenW xs
 |[],j=>by simp
 |x::r,0=>by simp [lenW]
 |x::r,j+1=>by have:=xzcx r j;simp only [List.take_succ_cons,lenW];omega
theorem xzcr (xs:List ByteArray)(j:Nat)(h:j<xs.length):wordsL (xs.take (j+1))=addW (wordsL (xs.take j)) xs[j]:=by
 unfold wordsL;rw [List.take_succ_eq_append_getElem h,List.foldl_append];rfl
theorem xzcb (xs:List ByteArray):∀ j,j<=xs.length->(wordsL (xs.take j)).length<=lenW (xs.take j)
 |0,_=>by simp [wordsL,lenW]
 |j+1,h=>by
  have h1:=xzcb xs j (by omega);have h2:=xzlj (wordsL (xs.take j)) (xs[j]'(by omega));rw [xzcr xs j (by omega),xzeh xs j (by omega)];omega
set_option maxRecDepth 100000 in
set_option maxHeartbeats 4000000 in
theorem xziy (xs:List ByteArray)(bk o c:Nat)(w:World)(hcells:∀ (j:Nat) (h:j<xs.length),w.cell? ⟨bk,o+j,none⟩=some (.string xs[j]))(hbk:bk<w.heap.size)(hn:xs.length<=1048576)(hl:lenW xs<=1099511627776):
 Calls Tryd.prog 42 #[.slice (some ⟨bk,o,none⟩) xs.length c] w fun e w'=>e=.returned (.string ⟨(wordsL xs).toArray⟩)/\Below w.heap.size w w':=by
 have hb0:Below w.heap.size w (w.alloc (.cells #[.pointer none,.slice none 0 0] 51)):=(Below.refl _ _).alloc (Nat.le_refl _) _
 have H0:=zd (show Lib.IsBuilder 51 5 w.heap.size w.heap.size (Lib.byteCells (wordsL (xs.take 0))) (w.alloc (.cells #[.pointer none,.slice none 0 0] 51))/\Below w.heap.size w (w.alloc (.cells #[.pointer none,.slice none 0 0] 51))from
  ⟨.inl ⟨Nat.le_refl _,_,BlkIs.new w _ _,World.ownsRow_nil _ _ _ _,by simp [Value.ownBlock]⟩,hb0⟩)
 have HC:=zd hcells;have HBK:=zd hbk;have HL:=zd (fun(j:Nat) (h:j<=xs.length)=>(show(wordsL (xs.take j)).length<=1099511627776 from Nat.le_trans (xzcb xs j h) (Nat.le_trans (xzcx xs j) hl)))
 have HZ:=zd (fun(j:Nat) (h:j<xs.length)=>(show xs[j].size<=1099511627776 by
  have h1:=xzeh xs j h;have h2:=xzcx xs (j+1)
  omega))
 clear hb0 hcells hbk hl
 go_enter Tryd.func42,Tryd.ntmps42
 go_wp2
 go_loopw [8] (fun i wr=>∃ j:Nat,i=.int .i64 j/\j<=xs.length/\Hid (Lib.IsBuilder 51 5 w.heap.size w.heap.size (Lib.byteCells (wordsL (xs.take j))) wr/\Below w.heap.size w wr)) (fun i _=>xs.length - (intOf i).toNat)
 case atStart=>exact⟨0,rfl,Nat.zero_le _,H0⟩
 case round=>
  obtain⟨j,rfl,hj,HH⟩:=hrel;clear H0
  by_cases hp:j<xs.length
  ·have hk1:IntKind.i64.wrap ((j:Int)+1)=((j+1:Nat):Int):=by rw [IntKind.wrap_i64];omega
   have hdl:decide ((j:Int)<(xs.length:Int))=true:=by simp;omega
   have hji:(j:Int)<(xs.length:Int):=by omega
   have hcell:=(HH.out.2.cell (p:=⟨bk,o+j,none⟩) HBK.out).trans (HC.out j hp);have hsn:=xzcr xs j hp;have hzj:=HZ.out j hp;have hlj:=HL.out j hj;obtain⟨acc,hacc⟩:∃ acc,wordsL (xs.take j)=acc:=⟨_,rfl⟩;obtain⟨x,hx⟩:∃ x,xs[j]=x:=⟨_,rfl⟩;rw [hacc]at HH hsn hlj;rw [hx]at hcell hsn hzj;have HS:=zd hsn;have HX:=zd (And.intro hzj hlj);clear hsn hzj hlj hacc hx
   cases hxe:x.data.toList.isEmpty with
   |true=>
    have hxl:x.toList.isEmpty=true:=by rw [Lib.toList_data];exact hxe
    have HS2:=zd (show wordsL (xs.take (j+1))=acc++x.data.toList by rw [HS.out];unfold addW;rw [hxe];rfl);have HE:=zd hxe;clear hxe;have hcs:=xzlf w.heap.size w.heap.size _ x wr HH.out.1 (by rw [Lib.byteCells_length];have:=HX.out;omega) HH.out.2.size;have HCS:=zd hcs;clear hcs
    go_wp2_with fail
    go_at_call 11
    refine HCS.out.mono ?_;rintro e w2 ⟨rfl,hb2,hu2⟩
    have HF:=zd (show Lib.IsBuilder 51 5 w.heap.size w.heap.size (Lib.byteCells (wordsL (xs.take (j+1)))) w2/\Below w.heap.size w w2 from
     ⟨by rw [HS2.out];unfold Lib.byteCells;rw [List.map_append];exact .inr hb2,HH.out.2.trans hu2⟩)
    clear hb2 hu2;go_wp2;exact⟨⟨j+1,rfl,hp,HF⟩,by simp [intOf];omega⟩
   |false=>
    have hxl:x.toList.isEmpty=false:=by rw [Lib.toList_data];exact hxe
    have HE:=zd hxe;have hcl:=bu_len w.heap.size w.heap.size _ wr HH.out.1;rw [Lib.byteCells_length]at hcl;obtain⟨nl,hnl⟩:∃ nl,acc.length=nl:=⟨_,rfl⟩;rw [hnl]at hcl;have HCL:=zd hcl;clear hxe hcl
    cases hae:acc.isEmpty with
    |true=>
     obtain rfl:nl=0:=by rw [<-hnl,List.isEmpty_iff.1 hae];rfl
     clear hnl;have HS2:=zd (show wordsL (xs.take (j+1))=acc++x.data.toList by rw [HS.out];unfold addW;rw [hae,Bool.or_true];rfl);have hcs:=xzlf w.heap.size w.heap.size _ x wr HH.out.1 (by rw [Lib.byteCells_length];have:=HX.out;omega) HH.out.2.size;have HCS:=zd hcs;clear hcs hae
     go_wp2_with fail
     go_at_call 18
     refine HCL.out.mono ?_;rintro e w1 ⟨rfl,rfl⟩
     go_wp2_with fail
     go_at_call 11
     refine HCS.out.mono ?_;rintro e w2 ⟨rfl,hb2,hu2⟩
     have HF:=zd (show Lib.IsBuilder 51 5 w.heap.size w.heap.size (Lib.byteCells (wordsL (xs.take (j+1)))) w2/\Below w.heap.size w w2 from
      ⟨by rw [HS2.out];unfold Lib.byteCells;rw [List.map_append];exact .inr hb2,HH.out.2.trans hu2⟩)
     clear hb2 hu2;go_wp2;exact⟨⟨j+1,rfl,hp,HF⟩,by simp [intOf];omega⟩
    |false=>
     have hpos:0<nl:=by rw [<-hnl];cases acc with|nil=>simp at hae|cons a r=>simp
     have e0:decide ((nl:Int)>0)=true:=by simp;omega
     have e0b:decide (0<nl)=true:=decide_eq_true hpos;clear hnl;have HS2:=zd (show wordsL (xs.take (j+1))=(acc++[32])++x.data.toList by rw [HS.out];unfold addW;rw [hae,HE.out];rfl);have hcb:=bu_byte w.heap.size w.heap.size _ 32 wr HH.out.1 (by rw [Lib.byteCells_length];have:=HX.out;omega) HH.out.2.size;have HCB:=zd hcb;clear hcb hae hpos
     go_wp2_with fail
     go_at_call 18
     refine HCL.out.mono ?_;rintro e w1 ⟨rfl,rfl⟩
     go_wp2_with fail
     go_at_call 10
     refine HCB.out.mono ?_;rintro e w2 ⟨rfl,hb2,hu2⟩
     have hb2':Lib.IsBuilder 51 5 w.heap.size w.heap.size (Lib.byteCells (acc++[32])) w2:=by unfold Lib.byteCells;rw [List.map_append];exact .inr hb2
     have HU2:=zd (HH.out.2.trans hu2);have hcs:=xzlf w.heap.size w.heap.size _ x w2 hb2' (by rw [Lib.byteCells_length];have:=HX.out;simp;omega) HU2.out.size;have HCS:=zd hcs;clear hcs hb2 hu2 hb2'
     go_wp2_with fail
     go_at_call 11
     refine HCS.out.mono ?_;rintro e w3 ⟨rfl,hb3,hu3⟩
     have HF:=zd (show Lib.IsBuilder 51 5 w.heap.size w.heap.size (Lib.byteCells (wordsL (xs.take (j+1)))) w3/\Below w.heap.size w w3 from
      ⟨by rw [HS2.out];unfold Lib.byteCells at hb3 ⊢;rw [List.map_append];exact .inr hb3,HU2.out.trans hu3⟩)
     clear hb3 hu3;go_wp2;exact⟨⟨j+1,rfl,hp,HF⟩,by simp [intOf];omega⟩
  ·have hdl:decide ((j:Int)<(xs.length:Int))=false:=by simp;omega
   obtain rfl:j=xs.length:=by omega
   have hh:=HH.out;rw [List.take_length]at hh;have hcs:=xzir w.heap.size w.heap.size _ wr hh.1 hh.2.size;have HCS:=zd (And.intro hcs hh.2);clear hcs hh HH
   go_wp2_with fail
   go_at_call 13
   refine HCS.out.1.mono ?_;rintro e w2 ⟨rfl,hu2⟩;have HU:=zd (HCS.out.2.trans hu2);clear hu2;go_wp2;go_ret;exact⟨rfl,HU.out⟩
end
end Go.Proofs.YtgjfhbpmahgfcaaDoor
