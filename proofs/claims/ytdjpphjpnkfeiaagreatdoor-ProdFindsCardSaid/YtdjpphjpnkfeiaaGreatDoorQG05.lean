/-
 WHAT hacklelaw01's OctsMakes ANSWERS: true. Condition: the table of math/bits lies as it is laid; the bytes lie in memory.
-/
import Derived.Maps.AppendAt
import Derived.Laws.CopyOwn
import Derived.Deep.OwnRows
import Derived.Lib.ItoaWalk
import Derived.Test.YtdjpphjpnkfeiaaGreatDoorQG04
import Derived.Test.YtdjpphjpnkfeiaaGreatDoorQG01
import Derived.Test.YtdjpphjpnkfeiaaGreatDoorQG03
namespace Go.Proofs.YtdjpphjpnkfeiaaGreatDoor
section
open Go.RowKit
theorem ByteRow.keep {w w':World}{B:Nat}{A:Option Addr}{l:List Nat}(h:ByteRow w B A l)(hB:B<=w.heap.size)(hb:Below w.heap.size w w'):ByteRow w' B A l:=fun hl=>by
 obtain⟨b,off,rfl,hlt,hc⟩:=h hl;refine⟨b,off,rfl,hlt,fun k x hk=>?_⟩;rw [hb.cell (by show b<w.heap.size;omega)];exact hc k x hk
theorem ByteRow.far {w:World}{B:Nat}{A:Option Addr}{l:List Nat}(h:ByteRow w B A l){p:Addr}(hp:B<=p.block)(v:Value):ByteRow (w.setCell p v) B A l:=fun hl=>by
 obtain⟨b,off,rfl,hlt,hc⟩:=h hl;refine⟨b,off,rfl,hlt,fun k x hk=>?_⟩;rw [(Below.refl B w).setCell hp v |>.cell (by exact hlt)];exact hc k x hk
theorem ByteRow.wide {w:World}{B B':Nat}{A:Option Addr}{l:List Nat}(h:ByteRow w B A l)(hB:B<=B'):ByteRow w B' A l:=fun hl=>by
 obtain⟨b,off,rfl,hlt,hc⟩:=h hl;exact⟨b,off,rfl,by omega,hc⟩
end
section
open Go.RowKit
section
variable {ops : Array Oper} {rest : List Oper} {op : Oper} {a : Act} {w : World} {Q : Exit → Act → World → Prop} {g : Nat} {t : TypeId} {f : Nat → Nat} {n : Int} {R : Nat → Nat}
theorem xzhc (hgd:op.guard=none)(x:Operand)(ho:op.op=.load 22 x)(hx:a.eval x=.pointer (some ⟨g,0,none⟩))(h:BlkIs w g t (clsC f n))
 (hK:wpList Tryz.prog ops Q rest (a.put op.dst (.agg (ofC f))) w):wpList Tryz.prog ops Q (op::rest) a w:=
 wpList_load_mid hgd 22 x ho g 0 hx (ofC f).toList _ (rangeO h) Tryz.underlying22 rfl (by rw [infoO,Array.length_toList,xzhb]) (by rw [Array.toArray_toList];exact hK)
theorem xzbo (hgd:op.guard=none)(x:Operand)(ho:op.op=.load 33 x)(hx:a.eval x=.pointer (some ⟨g,0,none⟩))(h:BlkIs w g t (clsC f n))
 (hK:wpList Tryz.prog ops Q rest (a.put op.dst (.agg (clsC f n))) w):wpList Tryz.prog ops Q (op::rest) a w:=
 wpList_load_mid hgd 33 x ho g 0 hx (clsC f n).toList _ h.range Tryz.underlying33 rfl (by rw [infoC,Array.length_toList,xzaj]) (by rw [Array.toArray_toList];exact hK)
theorem xznc (hgd:op.guard=none)(x:Operand)(ho:op.op=.load 206 x)(hx:a.eval x=.pointer (some ⟨g,0,none⟩))(h:BlkIs w g t (rowC R))
 (hK:wpList Tryz.prog ops Q rest (a.put op.dst (.agg (rowC R))) w):wpList Tryz.prog ops Q (op::rest) a w:=
 wpList_load_mid hgd 206 x ho g 0 hx (rowC R).toList _ h.range Tryz.underlying206 rfl (by rw [infoW,Array.length_toList,xzdh]) (by rw [Array.toArray_toList];exact hK)
def Wrote (g:Nat)(w w':World):Prop:=(∀ k,k≠g->w'.heap[k]? =w.heap[k]?)/\(∀ B W0,B<=g->Below B W0 w->Below B W0 w')/\w'.heap.size=w.heap.size
theorem Wrote.blk {w w':World}{k:Nat}{cs:Array Value}(h:Wrote g w w')(hk:k≠g)(hb:BlkIs w k t cs):BlkIs w' k t cs:=(h.1 k hk).trans hb
theorem Wrote.cell (w:World)(g i:Nat)(v:Value):Wrote g w (w.setCell ⟨g,i,none⟩ v):=
 ⟨fun k hk=>Below.heap_setCell w ⟨g,i,none⟩ v k hk,fun _ _ hB h=>h.setCell (p:=⟨g,i,none⟩) hB v,World.size_setCell _ _ _⟩
theorem Wrote.trans {w1 w2 w3:World}(h:Wrote g w1 w2)(h':Wrote g w2 w3):Wrote g w1 w3:=
 ⟨fun k hk=>(h'.1 k hk).trans (h.1 k hk),fun B W0 hB hb=>h'.2.1 B W0 hB (h.2.1 B W0 hB hb),h'.2.2.trans h.2.2⟩
theorem Wrote.refl (g:Nat)(w:World):Wrote g w w:=⟨fun _ _=>rfl,fun _ _ _ h=>h,rfl⟩
theorem Wrote.cells (g:Nat):∀ (vs:List Value) (o:Nat) (w:World),Wrote g w (w.setCells g o vs)
 |[],_,w=>Wrote.refl g w
 |v::r,o,w=>by
  rw [World.setCells];exact(Wrote.cell w g o v).trans (Wrote.cells g r (o+1) _)
theorem xzam (hgd:op.guard=none)(ty:TypeId)(x y:Operand)(ho:op.op=.store ty x y)(hx:a.eval x=.pointer (some ⟨g,0,none⟩)){cs new:Array Value}(hy:a.eval y=.agg new)
 (h:BlkIs w g t cs)(hs:new.size=cs.size)(hi:(Tryz.prog.info? ty).map (·.size)=some new.size)(h1:new.all (·.oneCell')=true)
 (hK:∀ w',BlkIs w' g t new->Wrote g w w'->wpList Tryz.prog ops Q rest (a.put op.dst undef) w'):wpList Tryz.prog ops Q (op::rest) a w:=
 wpList_store_mid hgd ty x y ho g 0 new hx hy (by rw [hs];exact h.there) hi h1 (hK _ (h.fill hs) (Wrote.cells g _ 0 w))
end
set_option maxRecDepth 100000 in
set_option maxHeartbeats 1000000 in
theorem xzli (f:Nat->Nat)(n:Int)(hf:∀ b,b<256->f b<256)(w:World):
 Calls Tryz.prog 65 #[.agg (clsC f n)] w fun e w'=>e=.returned (.bool (mayB f n))/\Below w.heap.size w w':=by
 have hb:=BlkIs.new w 33 (clsC f n);have hn:=(hb.cell 256).trans (xztj f n);have hB:=(Below.refl w.heap.size w).alloc (Nat.le_refl _) (.cells (clsC f n) 33);have HB:=zd hb;have HF:=zd hf;have HBe:=zd hB;clear hb hf hB
 go_enter Tryz.func65,Tryz.ntmps65
 go_wp2_with(refine xzhc rfl (.tmp 6) rfl rfl HB.out ?_)
 go_loop [3,8] (fun a i=>∃ k c:Nat,k<=256/\c<=256/\a=.int .i64 c/\i=.int .i64 k/\Hid (c=cnt f k/\MayTo f k)) (fun _ i=>256 - (intOf i).toNat)
 case atStart=>exact⟨0,0,by omega,by omega,rfl,rfl,zd ⟨rfl,fun b h=>absurd h (by omega)⟩⟩
 case round=>
  obtain⟨k,c,hk,hc,rfl,rfl,HH⟩:=hrel
  by_cases hlt:k<256
  ·have hix:=idxO f hlt (w.alloc (.cells (clsC f n) 33))
   have hfk:=HF.out k hlt
   have hw:IntKind.i64.wrap ((f k:Nat):Int)=(f k:Nat):=by rw [IntKind.wrap_i64];omega
   rcases Nat.lt_trichotomy (f k) c with h1|h1|h1
   ·have d1:decide (((c:Nat):Int)<((f k:Nat):Int))=false:=decide_eq_false (by omega)
    have d2:(((f k:Nat):Int)==((c:Nat):Int))=false:=by simp;omega
    have hs:=xzpd HH.out.2 (by rw [<-HH.out.1];exact h1);have HS:=zd hs;clear hs;go_wp2;exact⟨⟨k+1,c,by omega,hc,rfl,by go_num,zd ⟨by rw [HS.out.2];exact HH.out.1,HH.out.2.succ HS.out.1⟩⟩,by simp [intOf];omega⟩
   ·have d1:decide (((c:Nat):Int)<((f k:Nat):Int))=false:=decide_eq_false (by omega)
    have d2:(((f k:Nat):Int)==((c:Nat):Int))=true:=by simp;omega
    have hs:=xzpc HH.out.2 (by rw [<-HH.out.1];exact h1);have HS:=zd hs;clear hs;go_wp2;exact⟨⟨k+1,c+1,by omega,by omega,by go_num,by go_num,zd ⟨by rw [HS.out.2,HH.out.1],HH.out.2.succ HS.out.1⟩⟩,by simp [intOf];omega⟩
   ·have d1:decide (((c:Nat):Int)<((f k:Nat):Int))=true:=decide_eq_true (by omega)
    have hs:=xzti (n:=n) hlt (xzlf (by rw [<-HH.out.1];exact h1));have HS:=zd hs;clear hs;go_wp2;go_ret;exact⟨xzjy HS.out.symm,HBe.out⟩
  ·obtain rfl:k=256:=by omega
   have hs:=xzth (n:=n) HH.out.2;rw [<-HH.out.1]at hs;have HS:=zd hs;clear hs;go_wp2;go_ret;refine⟨xzjy ?_,HBe.out⟩;rw [HS.out,Bool.eq_iff_iff];simp
set_option maxRecDepth 100000 in
set_option maxHeartbeats 1000000 in
theorem xzts (f:Nat->Nat)(n:Int)(hf:∀ b,b<256->f b<256)(w:World):
 Calls Tryz.prog 27 #[.agg (clsC f n)] w fun e w'=>e=.returned (.bool (mayB f n))/\Below w.heap.size w w':=by
 have hb:=BlkIs.new w 24 (clsC f n);have hn:=(hb.cell 256).trans (xztj f n);have hB:=(Below.refl w.heap.size w).alloc (Nat.le_refl _) (.cells (clsC f n) 24);have HB:=zd hb;have HF:=zd hf;have HBe:=zd hB;clear hb hf hB
 go_enter Tryz.func27,Tryz.ntmps27
 go_wp2
 go_loop [3,4] (fun a i=>∃ k c:Nat,k<=256/\c<=256/\a=.int .i64 c/\i=.int .i64 k/\Hid (c=cnt f k/\MayTo f k)) (fun _ i=>256 - (intOf i).toNat)
 case atStart=>exact⟨0,0,by omega,by omega,rfl,rfl,zd ⟨rfl,fun b h=>absurd h (by omega)⟩⟩
 case round=>
  obtain⟨k,c,hk,hc,rfl,rfl,HH⟩:=hrel
  by_cases hlt:k<256
  ·have hix:=(HB.out.cell k).trans (xzlg f n hlt)
   have hfk:=HF.out k hlt
   have hw:IntKind.i64.wrap ((f k:Nat):Int)=(f k:Nat):=by rw [IntKind.wrap_i64];omega
   rcases Nat.lt_trichotomy (f k) c with h1|h1|h1
   ·have d1:decide (((c:Nat):Int)<((f k:Nat):Int))=false:=decide_eq_false (by omega)
    have d2:(((f k:Nat):Int)==((c:Nat):Int))=false:=by simp;omega
    have hs:=xzpd HH.out.2 (by rw [<-HH.out.1];exact h1);have HS:=zd hs;clear hs;go_wp2;exact⟨⟨k+1,c,by omega,hc,rfl,by go_num,zd ⟨by rw [HS.out.2];exact HH.out.1,HH.out.2.succ HS.out.1⟩⟩,by simp [intOf];omega⟩
   ·have d1:decide (((c:Nat):Int)<((f k:Nat):Int))=false:=decide_eq_false (by omega)
    have d2:(((f k:Nat):Int)==((c:Nat):Int))=true:=by simp;omega
    have hs:=xzpc HH.out.2 (by rw [<-HH.out.1];exact h1);have HS:=zd hs;clear hs;go_wp2;exact⟨⟨k+1,c+1,by omega,by omega,by go_num,by go_num,zd ⟨by rw [HS.out.2,HH.out.1],HH.out.2.succ HS.out.1⟩⟩,by simp [intOf];omega⟩
   ·have d1:decide (((c:Nat):Int)<((f k:Nat):Int))=true:=decide_eq_true (by omega)
    have hs:=xzti (n:=n) hlt (xzlf (by rw [<-HH.out.1];exact h1));have HS:=zd hs;clear hs;go_wp2;go_ret;exact⟨xzjy HS.out.symm,HBe.out⟩
  ·obtain rfl:k=256:=by omega
   have hs:=xzth (n:=n) HH.out.2;rw [<-HH.out.1]at hs;have HS:=zd hs;clear hs;go_wp2;go_ret;refine⟨xzjy ?_,HBe.out⟩;rw [HS.out,Bool.eq_iff_iff];simp
end
section
open Go.RowKit
def rowP (f:Nat->Bool)(k:Nat):Value:=.int .u64 (wd f k:Nat)
def BlkF (W:World)(g:Nat)(t:TypeId)(N:Nat)(F:Nat->Value):Prop:=BlkIs W g t (cellsN N F)
def HasRow (N:Nat)(F:Nat->Value)(o:Nat)(f:Nat->Bool):Prop:=o+32<=N/\∀ k,k<32->F (o+k)=rowP f k
def putV (F:Nat->Value)(i:Nat)(v:Value):Nat->Value:=fun j=>if j=i then v else F j
theorem BlkF.cell {W:World}{g:Nat}{t:TypeId}{N:Nat}{F:Nat->Value}(h:BlkF W g t N F){i:Nat}(hi:i<N):W.cell? ⟨g,i,none⟩=some (F i):=by
 rw [BlkIs.cell h,xzbs _ hi]
theorem BlkF.put {W:World}{g:Nat}{t:TypeId}{N:Nat}{F:Nat->Value}(h:BlkF W g t N F)(i:Nat)(v:Value):BlkF (W.setCell ⟨g,i,none⟩ v) g t N (putV F i v):=by
 have:=BlkIs.put h i v;rw [xzer]at this;exact this
def plus (f:Nat->Bool)(p:Nat):Nat->Bool:=fun q=>f q||decide (q=p)
theorem xzja (f:Nat->Bool){p k:Nat}(h:k≠p / 64):wd (plus f p) k=wd f k:=by
 apply xzbh
 intro j hj;unfold plus;have:decide (64*k+j=p)=false:=decide_eq_false (by omega);rw [this,Bool.or_false]
theorem Wrote.drew {g:Nat}{w w':World}(h:Wrote g w w'):Wrote g w w'.drew:=⟨h.1,fun B W0 hB hb=>(h.2.1 B W0 hB hb).drew,h.2.2⟩
def RowAt (W:World)(g o:Nat)(f:Nat->Bool):Prop:=∀ k,k<32->W.cell? ⟨g,o+k,none⟩=some (rowP f k)
def rowA (f:Nat->Bool):Array Value:=cellsN 32 (rowP f)
theorem xzav (f:Nat->Bool):(rowA f).size=32:=xzax _ _
theorem xzfe (f:Nat->Bool){k:Nat}(h:k<32):(rowA f)[k]? =some (rowP f k):=xzbs _ h
theorem xzff (f:Nat->Bool):(rowA f).all (·.oneCell')=true:=xzes fun _=>rfl
theorem xzlj {f f':Nat->Bool}(h:∀ p,p<2048->f p=f' p):rowA f=rowA f':=xzap fun i hi=>by
 unfold rowP;rw [xzbh fun j hj=>h _ (by omega)]
theorem infoRw:(Tryz.prog.info? 127).map (·.size)=some 32:=by kernel_rfl
theorem infoWs:(Tryz.prog.info? 125).map (·.size)=some 32:=by kernel_rfl
theorem RowAt.range {W:World}{g o:Nat}{f:Nat->Bool}(h:RowAt W g o f):W.rangeAt g o (rowA f).toList:=fun j v hv=>by
 have hj:j<32:=by have:=(List.getElem?_eq_some_iff.1 hv).1;rw [Array.length_toList,xzav]at this;exact this
 rw [h j hj];rw [Array.getElem?_toList,xzfe f hj]at hv;exact hv
theorem BlkF.row {W:World}{g:Nat}{t:TypeId}{N o:Nat}{F:Nat->Value}{f:Nat->Bool}(h:BlkF W g t N F)(hr:HasRow N F o f):RowAt W g o f:=fun k hk=>by
 rw [h.cell (by have:=hr.1;omega),hr.2 k hk]
theorem RowAt.heap {W W':World}{g o:Nat}{f:Nat->Bool}(h:RowAt W g o f)(e:W'.heap[g]? =W.heap[g]?):RowAt W' g o f:=fun k hk=>by
 rw [<-h k hk];unfold World.cell?;simp only [e]
theorem RowAt.step {W W':World}{g o:Nat}{f:Nat->Bool}(h:RowAt W g o f)(hb:Below W.heap.size W W'):RowAt W' g o f:=fun k hk=>by
 have hlt:g<W.heap.size:=World.block_lt_of_cell? W ⟨g,o+k,none⟩ (h k hk);exact(hb.cell (p:=⟨g,o+k,none⟩) hlt).trans (h k hk)
section
variable {ops : Array Oper} {rest : List Oper} {op : Oper} {a : Act} {w : World} {Q : Exit → Act → World → Prop} {g o : Nat} {f : Nat → Bool}
theorem xzdu (hgd:op.guard=none)(x:Operand)(ho:op.op=.load 125 x)(hx:a.eval x=.pointer (some ⟨g,o,none⟩))(h:RowAt w g o f)
 (hK:wpList Tryz.prog ops Q rest (a.put op.dst (.agg (rowA f))) w):wpList Tryz.prog ops Q (op::rest) a w:=
 wpList_load_mid hgd 125 x ho g o hx (rowA f).toList _ h.range Tryz.underlying125 rfl (by rw [infoWs,Array.length_toList,xzav]) (by rw [Array.toArray_toList];exact hK)
theorem xzcc (hgd:op.guard=none)(x:Operand)(ho:op.op=.load 127 x)(hx:a.eval x=.pointer (some ⟨g,o,none⟩))(h:RowAt w g o f)
 (hK:wpList Tryz.prog ops Q rest (a.put op.dst (.agg (rowA f))) w):wpList Tryz.prog ops Q (op::rest) a w:=
 wpList_load_mid hgd 127 x ho g o hx (rowA f).toList _ h.range Tryz.underlying127 rfl (by rw [infoRw,Array.length_toList,xzav]) (by rw [Array.toArray_toList];exact hK)
theorem loadRw (h:RowAt w g o f):(Instr.loadAt 127 (.pointer (some ⟨g,o,none⟩))).run Tryz.prog w=.ok (.agg (rowA f)) w:=by
 have:=run_loadAt_mid (P:=Tryz.prog) w g o 127 (rowA f).toList _ h.range Tryz.underlying127 rfl (by rw [infoRw,Array.length_toList,xzav]);rw [this]
theorem loadVarRw (h:RowAt w g o f):(loadVar 127 ⟨g,o,none⟩).run Tryz.prog w=.ok (.agg (rowA f)) w:=by
 have:=run_loadVar_mid (P:=Tryz.prog) w g o 127 (rowA f).toList _ h.range Tryz.underlying127 rfl (by rw [infoRw,Array.length_toList,xzav]);rw [this]
end
theorem part59 {xs:Array Value}{off:Nat}{v:Value}(hx:xs[off]? =some v)(w:World):(part 46 xs off).run Tryz.prog w=.ok v w:=run_part_plain w (by kernel_rfl) hx
theorem idxRw (f:Nat->Bool){k:Nat}(hk:k<32)(w:World):(Instr.index 125 (.agg (rowA f)) (.int .i64 k)).run Tryz.prog w=.ok (rowP f k) w:=by
 have hs:(sizeOf 46).run Tryz.prog w=.ok 1 w:=by kernel_rfl
 have hp:=part59 (xzfe f hk) w
 simp [Instr.index,run_underlying Tryz.underlying125,asIntOf,hs,hp,hk]
set_option maxRecDepth 20000 in
set_option maxHeartbeats 2000000 in
theorem xzhd (g o N:Nat)(t:TypeId)(F:Nat->Value)(f:Nat->Bool)(p:Nat)(w:World)(hb:BlkF w g t N F)(hr:HasRow N F o f)(hp:p<2048):
 Calls Tryz.prog 103 #[.pointer (some ⟨g,o,none⟩),.int .i64 p] w fun e w'=>e=.returned (.tuple #[])/\BlkF w' g t N (putV F (o+p / 64) (rowP (plus f p) (p / 64)))/\Wrote g w w':=by
 have hc:=hb.cell (i:=o+p / 64) (by have:=hr.1;omega);rw [hr.2 (p / 64) (by omega)]at hc;unfold rowP at hc;have hfz:=BlkIs.frozen hb (o+p / 64)
 go_enter Tryz.func103,Tryz.ntmps103
 go_wp2_with fail
 go_region
 go_wp2;rw [xzqw (m:=f) (m':=plus f p) (x:=p) (i:=p / 64) (fun b=>rfl) rfl]
 go_end0
 exact⟨rfl,(BlkF.put hb _ _),Wrote.drew (Wrote.cell w g _ _)⟩
theorem and_bit (f:Nat->Bool)(p:Nat):(wd f (p / 64)>>>(p%64))%2=(if f p then 1 else 0):=by
 have h:=xzaw f (p / 64) (p%64);rw [show 64*(p / 64)+p%64=p by omega,decide_eq_true (show p%64<64 by omega),Bool.true_and]at h;rw [Nat.testBit,Nat.one_and_eq_mod_two]at h
 cases hf:f p
 ·rw [hf]at h;simp only [bne_eq_false_iff_eq]at h;rw [h];rfl
 ·rw [hf]at h;simp only [bne_iff_ne,ne_eq]at h
  simp only [if_true];omega
theorem yzdr (f:Nat->Bool)(p:Nat):(bits .and .u64 (((wd f (p / 64):Nat):Int) / 2^(p%64)) 1==1)=f p:=by
 have e:(((wd f (p / 64):Nat):Int) / 2^(p%64))=((wd f (p / 64)>>>(p%64):Nat):Int):=by
  rw [Nat.shiftRight_eq_div_pow,Int.natCast_ediv,Int.natCast_pow];rfl
 have hl:=xzis f (p / 64)
 have hle:wd f (p / 64)>>>(p%64)<18446744073709551616:=by
  rw [Nat.shiftRight_eq_div_pow];exact Nat.lt_of_le_of_lt (Nat.div_le_self _ _) hl
 have h:=u64_and_nat (wd f (p / 64)>>>(p%64)) 1 hle (by decide);rw [e,show(1:Int)=((1:Nat):Int)from rfl,h,Nat.and_one_is_mod,and_bit]
 cases f p<;>rfl
set_option maxRecDepth 20000 in
set_option maxHeartbeats 2000000 in
theorem xzhe (g o:Nat)(f:Nat->Bool)(p:Nat)(w:World)(hr:RowAt w g o f)(hp:p<2048):
 Calls Tryz.prog 107 #[.pointer (some ⟨g,o,none⟩),.int .i64 p] w fun e w'=>e=.returned (.bool (f p))/\w'=w:=by
 have hc:=hr (p / 64) (by omega);unfold rowP at hc;clear hr
 go_enter Tryz.func107,Tryz.ntmps107
 go_wp2;rw [yzdr];go_ret;exact⟨rfl,rfl⟩
def joinF (F:Nat->Value)(o:Nat)(f:Nat->Bool)(k:Nat):Nat->Value:=fun i=>if o<=i/\i<o+k then rowP f (i - o)else F i
theorem xzym (F:Nat->Value)(o:Nat)(f:Nat->Bool)(k:Nat):putV (joinF F o f k) (o+k) (rowP f k)=joinF F o f (k+1):=by
 funext i;unfold putV joinF
 by_cases h:i=o+k
 ·subst h;rw [if_pos rfl,if_pos (by omega),show o+k - o=k by omega]
 ·rw [if_neg h]
  by_cases h2:o<=i/\i<o+k
  ·rw [if_pos h2,if_pos (by omega)]
  ·rw [if_neg h2,if_neg (by omega)]
theorem xztt (F:Nat->Value)(o:Nat)(f:Nat->Bool):joinF F o f 0=F:=by
 funext i;unfold joinF;rw [if_neg (by omega)]
theorem yzds (F:Nat->Value)(o:Nat)(f:Nat->Bool)(k:Nat):joinF F o f k (o+k)=F (o+k):=by
 unfold joinF;rw [if_neg (by omega)]
set_option maxRecDepth 20000 in
set_option maxHeartbeats 2000000 in
theorem xzqx (g o N:Nat)(t:TypeId)(F:Nat->Value)(f f2:Nat->Bool)(g2 o2:Nat)(w:World)(hb:BlkF w g t N F)(hr:HasRow N F o f)(h2:RowAt w g2 o2 f2):
 Calls Tryz.prog 108 #[.pointer (some ⟨g,o,none⟩),.pointer (some ⟨g2,o2,none⟩)] w fun e w'=>e=.returned (.tuple #[])/\BlkF w' g t N (joinF F o (sOr f f2) 32)/\Wrote g w w':=by
 have HR2:=zd h2;have HB:=zd (And.intro hb hr);clear hb hr h2
 go_enter Tryz.func108,Tryz.ntmps108
 go_wp2_with(refine xzdu rfl _ rfl rfl HR2.out ?_)
 go_loopw [4,5,10] (fun _ _ i wr=>∃ k:Nat,i=.int .i64 k/\k<=32/\Hid (BlkF wr g t N (joinF F o (sOr f f2) k)/\Wrote g w wr)) (fun _ _ i _=>32 - (intOf i).toNat)
 case atStart=>exact⟨0,rfl,by decide,zd ⟨by rw [xztt];exact HB.out.1,Wrote.refl g w⟩⟩
 case round=>
  obtain⟨k,rfl,hk,HH⟩:=hrel
  by_cases hp:k<32
  ·have hk1:IntKind.i64.wrap ((k:Int)+1)=((k+1:Nat):Int):=by rw [IntKind.wrap_i64];omega
   have hdl:decide ((k:Int)<32)=true:=by simp;omega
   have hix:=fun u=>idxRw f2 hp u
   have hc:=BlkF.cell HH.out.1 (i:=o+k) (by have:=HB.out.2.1;omega);rw [yzds,HB.out.2.2 k hp]at hc;have hfz:=BlkIs.frozen HH.out.1 (o+k);unfold rowP at hc hix;have hor:=xzky f f2 k
   go_wp2_with fail
   go_region
   have HN:=zd (show BlkF (wr.setCell ⟨g,o+k,none⟩ (.int .u64 (wd (sOr f f2) k:Nat))).drew g t N (joinF F o (sOr f f2) (k+1))/\Wrote g w (wr.setCell ⟨g,o+k,none⟩ (.int .u64 (wd (sOr f f2) k:Nat))).drew from⟨by rw [<-xzym];exact HH.out.1.put _ _,HH.out.2.trans (Wrote.drew (Wrote.cell _ _ _ _))⟩);go_wp2;exact⟨⟨k+1,rfl,by omega,HN⟩,by simp [intOf];omega⟩
  ·have hdl:decide ((k:Int)<32)=false:=by simp;omega
   obtain rfl:k=32:=by omega
   go_wp2
   go_end0
   exact⟨rfl,HH.out⟩
end
section
open Go.RowKit
structure MkV where
 of:Nat->Nat
 n:Nat
 next:Value
 tag:Value
 v0:Value
 v1:Value
 v2:Value
 v3:Value
 v4:Value
 em:Int
 fol:Value
 tak:Value
 sts:Value
 nums:Value
 reach:Nat->Bool
def mkF (D:MkV)(i:Nat):Value:=
 if i<256 then .int .u8 (D.of i)else
 if i=256 then .int .i64 (D.n:Nat)else
 if i=257 then D.next else
 if i=258 then D.tag else
 if i=259 then D.v0 else
 if i=260 then D.v1 else
 if i=261 then D.v2 else
 if i=262 then D.v3 else
 if i=263 then D.v4 else
 if i=264 then .int .i64 D.em else
 if i=265 then D.fol else
 if i=266 then D.tak else
 if i=267 then D.sts else
 if i=268 then D.nums else rowP D.reach (i - 269)
theorem yzdt (D:MkV):HasRow 301 (mkF D) 269 D.reach:=by
 refine⟨by decide,fun k hk=>?_⟩;unfold mkF
 repeat rw [if_neg (by omega)]
 rw [show 269+k - 269=k by omega]
theorem put_nx (D:MkV)(v:Value):putV (mkF D) 257 v=mkF {D with next:=v}:=by
 funext i;unfold putV;by_cases h:i=257
 ·subst h;rfl
 ·rw [if_neg h];unfold mkF;simp only [if_neg h]
theorem put_tg (D:MkV)(v:Value):putV (mkF D) 258 v=mkF {D with tag:=v}:=by
 funext i;unfold putV;by_cases h:i=258
 ·subst h;rfl
 ·rw [if_neg h];unfold mkF;simp only [if_neg h]
theorem put_fo (D:MkV)(v:Value):putV (mkF D) 265 v=mkF {D with fol:=v}:=by
 funext i;unfold putV;by_cases h:i=265
 ·subst h;rfl
 ·rw [if_neg h];unfold mkF;simp only [if_neg h]
theorem put_ta (D:MkV)(v:Value):putV (mkF D) 266 v=mkF {D with tak:=v}:=by
 funext i;unfold putV;by_cases h:i=266
 ·subst h;rfl
 ·rw [if_neg h];unfold mkF;simp only [if_neg h]
theorem put_st (D:MkV)(v:Value):putV (mkF D) 267 v=mkF {D with sts:=v}:=by
 funext i;unfold putV;by_cases h:i=267
 ·subst h;rfl
 ·rw [if_neg h];unfold mkF;simp only [if_neg h]
theorem xzyn (D:MkV)(p:Nat)(hp:p<2048):putV (mkF D) (269+p / 64) (rowP (plus D.reach p) (p / 64))=mkF {D with reach:=plus D.reach p}:=by
 funext i;unfold putV;by_cases h:i=269+p / 64
 ·subst h
  rw [if_pos rfl];unfold mkF
  repeat rw [if_neg (by omega)]
  rw [show 269+p / 64 - 269=p / 64 by omega]
 ·rw [if_neg h];unfold mkF
  by_cases h2:i<269
  ·have:i<256\/i=256\/i=257\/i=258\/i=259\/i=260\/i=261\/i=262\/i=263\/i=264\/i=265\/i=266\/i=267\/i=268:=by omega
   rcases this with h|rfl|rfl|rfl|rfl|rfl|rfl|rfl|rfl|rfl|rfl|rfl|rfl|rfl
   ·simp only [if_pos h]
   all_goals rfl
  ·repeat rw [if_neg (by omega)]
   unfold rowP;rw [xzja _ (by omega)]
theorem xzaq {W:World}{g:Nat}{t:TypeId}{D:MkV}(h:BlkF W g t 301 (mkF D)):
 W.cell? ⟨g,256,none⟩=some (.int .i64 (D.n:Nat))/\W.cell? ⟨g,257,none⟩=some D.next/\W.cell? ⟨g,258,none⟩=some D.tag/\
 W.cell? ⟨g,259,none⟩=some D.v0/\W.cell? ⟨g,260,none⟩=some D.v1/\W.cell? ⟨g,261,none⟩=some D.v2/\W.cell? ⟨g,262,none⟩=some D.v3/\W.cell? ⟨g,263,none⟩=some D.v4/\W.cell? ⟨g,264,none⟩=some (.int .i64 D.em)/\
 W.cell? ⟨g,265,none⟩=some D.fol/\W.cell? ⟨g,266,none⟩=some D.tak/\W.cell? ⟨g,267,none⟩=some D.sts/\W.cell? ⟨g,268,none⟩=some D.nums:=
 ⟨h.cell (by decide),h.cell (by decide),h.cell (by decide),h.cell (by decide),h.cell (by decide),h.cell (by decide),h.cell (by decide),h.cell (by decide),h.cell (by decide),h.cell (by decide),h.cell (by decide),h.cell (by decide),h.cell (by decide)⟩
end
section
open Go.RowKit
attribute [local irreducible] FreeW
def Nf.ruleAt (N:Nf)(p:Int):Int:=N.rules.getD p.toNat 0
def Nf.endAt (N:Nf)(p:Int):Bool:=N.ends.getD p.toNat false
def tagStep (N:Nf)(least p:Int):Int:=if N.endAt p&&(decide (least<0)||decide (N.ruleAt p<least))then N.ruleAt p else least
end
section
open Go.RowKit
attribute [local irreducible] FreeW
theorem xzbd {W W':World}{B:Nat}{t:TypeId}{z n:Nat}{v:Value}{xs:List Value}(h:W.ownsRow B t z v n xs)(hk:∀ k,v.ownBlock=some k->W'.heap[k]? =W.heap[k]?):W'.ownsRow B t z v n xs:=by
 refine⟨h.1,h.2.imp id ?_⟩;rintro⟨g,cap,cur,rfl,h1,h2,h3⟩;exact⟨g,cap,cur,rfl,h1,(hk g rfl).trans h2,h3⟩
def RowI (B:Nat)(W:World)(v:Value)(l:List Int):Prop:=W.ownsRow B 3 1 v l.length (l.map (Value.int .i64))
theorem RowI.nil (B:Nat)(W:World):RowI B W (.slice none 0 0) []:=World.ownsRow_nil _ _ _ _
theorem RowI.step {B:Nat}{W W':World}{v:Value}{l:List Int}(h:RowI B W v l)(hb:Below W.heap.size W W'):RowI B W' v l:=xzbd h fun k hk=>hb.block k (World.ownsRow.lt h k hk).2
theorem RowI.ints {B:Nat}{W:World}{v:Value}{l:List Int}(h:RowI B W v l):IntsV W l v:=by
 rcases h.2 with⟨rfl,h1⟩|⟨g,cap,cur,rfl,h2,h3,h4,h5,h6,h7⟩
 ·obtain rfl:=List.eq_nil_of_length_eq_zero h1
  exact IntsV.nil W
 ·refine⟨_,cap,rfl,⟨h4,by unfold maxLen at h5;omega⟩,fun _=>⟨g,0,rfl,(Array.getElem?_eq_some_iff.1 h3).1,fun i hi=>?_⟩⟩
  have:=World.ownsRow.cells h (g:=g) rfl i (.int .i64 l[i]) (by simp [hi])
  rwa [Addr.add_lit]at this
theorem xzdi:(Tryz.prog.info? 3).map (fun i=>(i.zero,i.size,i.bytes))=some (some (.int .i64 0),1,8):=by kernel_rfl
theorem RowI.push {B:Nat}{W:World}{v:Value}{l:List Int}(h:RowI B W v l)(hB:B<=W.heap.size)(p:Int)(hl:l.length+1<=1099511627776):
 ∃ v' W',(Builtin.append_ #[26,26] 26 #[v,.slice (some ⟨W.heap.size,0,none⟩) 1 1]).run Tryz.prog (W.alloc (.cells #[.int .i64 p] 3))=.ok v' W'/\RowI B W' v' (l++[p])/\Below B W W':=by
 obtain⟨i0,hi0,hz0,hz1,hz2⟩:=info_parts xzdi;have hUB:Below W.heap.size W (W.alloc (.cells #[.int .i64 p] 3)):=(Below.refl _ _).alloc (Nat.le_refl _) _;have h1:=h.step hUB;have hnew:=BlkIs.new W 3 #[.int .i64 p]
 obtain⟨v',W',hr,hown,hgr,_,_⟩:=run_append_own_at (P:=Tryz.prog) (w:=W.alloc (.cells #[.int .i64 p] 3)) B 26 26 3 i0 (.int .i64 0) 1 8 Tryz.underlying26 hi0 hz0 hz1 hz2 rfl (by decide) v l.length _ h1
  ⟨W.heap.size,0,none⟩ 1 1 [.int .i64 p] rfl (fun j u hu=>by
   rw [Addr.add_lit,Nat.zero_add];have:=hnew.range j u (by simpa using hu)
   simpa using this) (by simp [Value.oneCell']) (by unfold maxLen;omega) (by omega) (by have:=hUB.size;omega)
 refine⟨v',W',hr,?_,(hUB.mono hB).grown hgr (by have:=hUB.size;omega) (fun q hq=>(World.ownsRow.lt h1 q hq).1)⟩;unfold RowI;rw [List.map_append,List.length_append];exact hown
theorem xzyo {P:Program}{op:Oper}{a:Act}{w:World}{K:Act->World->Prop}{Q:Exit->Act->World->Prop}(s x:Operand)(t t2:TypeId)(hop:op.op=Op.call {callee:=Callee.builtin Builtin.append,args:=#[s,x],argTypes:=#[t,t2]}){v xv v':Value}{w':World}(hs:a.eval s=v)(hx:a.eval x=xv)
 (hrun:(Builtin.append_ #[t,t2] op.type #[v,xv]).run P w=.ok v' w')(h:K (a.put op.dst v') w'):op.wp P a w K Q:=by
 unfold Oper.wp execOp;simp only [hop,resolve,invoke,builtin,Sem.run_bind,Sem.run_pure,Result.andThen_ok,List.map_toArray,List.map_cons,List.map_nil,hs,hx,hrun];exact h
section
variable {P : Program} {op : Oper} {ops : Array Oper} {rest : List Oper} {a : Act} {w : World} {Q : Exit → Act → World → Prop}
theorem xzan (hg:op.guard=none)(s x:Operand)(t t2:TypeId)(hop:op.op=Op.call {callee:=Callee.builtin Builtin.append,args:=#[s,x],argTypes:=#[t,t2]}){v xv v':Value}{w':World}(hs:a.eval s=v)(hx:a.eval x=xv)
 (hrun:(Builtin.append_ #[t,t2] op.type #[v,xv]).run P w=.ok v' w')(h:wpList P ops Q rest (a.put op.dst v') w'):wpList P ops Q (op::rest) a w:=
 wpList_plain hg fun _ hK=>xzyo s x t t2 hop hs hx hrun (hK _ _ h)
end
def Nf.setAt (N:Nf)(p:Int):Nat->Bool:=N.sets.getD p.toNat fun _=>false
end
section
open Go.RowKit
attribute [local irreducible] FreeW
end
section
open Go.RowKit
theorem xzdy {k:Int}{m:Nat->Bool}{n:Nat}{lo hi:Int}(h:okNode k m n lo hi=true):
 (k=0/\n=0)\/(k=1/\n=0)\/(k=2/\2<=n)\/(k=3/\2<=n)\/(k=4/\n=1/\0<=lo/\lo<=64/\(hi= -1\/lo<=hi/\hi<=64)):=by
 unfold okNode at h
 split at h
 ·cases h
 ·split at h
  ·rename_i h2;have:=of_decide_eq_true h;omega
  ·split at h
   ·rename_i h2;have:=of_decide_eq_true h;omega
   ·split at h
    ·have:=of_decide_eq_true h;omega
    ·cases h
theorem xzph {k:Int}{m:Nat->Bool}{l:List Tree}{lo hi:Int}(h:Tree.ok (.node k m l lo hi)=true):(∀ t∈l,t.ok=true)/\okNode k m l.length lo hi=true:=by
 unfold Tree.ok at h;rw [Bool.and_eq_true,xzox]at h;exact h
mutual
def Tree.void:Tree->Bool
 | .node k m l lo _=>if k=0 then false else if k=1 then setEq m (fun _=>false)else if k=2 then anyVoid l else if k=3 then allVoid l else(decide (0<lo)&&headVoid l)
def anyVoid:List Tree->Bool
 |[]=>false
 |t::r=>t.void||anyVoid r
def allVoid:List Tree->Bool
 |[]=>true
 |t::r=>t.void&&allVoid r
def headVoid:List Tree->Bool
 |[]=>false
 |t::_=>t.void
end
end
section
open Go.RowKit
def bl (n:Nat)(f:Nat->Bool):Array Value:=((List.range n).map fun i=>Value.bool (f i)).toArray
theorem xzpi:(Tryz.prog.info? 4).map (fun i=>(i.zero,i.size,i.bytes))=some (some (.bool false),1,1):=by kernel_rfl
def upTo (j:Nat)(f:Nat->Bool):Nat->Bool:=fun i=>decide (i<=j)&&f i
def stepB (m:Nat->Bool)(s:List UInt8)(f:Nat->Bool):Nat->Bool
 |0=>false
 |i+1=>f i&&(match s[i]? with|some c=>m c.toNat|none=>false)
def orB (f g:Nat->Bool):Nat->Bool:=fun i=>f i||g i
def mostOf (s:List UInt8)(lo hi:Int):Nat:=if hi<0 then lo.toNat+s.length+1 else hi.toNat
def iterE (E:(Nat->Bool)->Nat->Bool):Nat->(Nat->Bool)->Nat->Bool
 |0,f=>f
 |n+1,f=>E (iterE E n f)
def repTo (E:(Nat->Bool)->Nat->Bool)(lo most:Nat)(f:Nat->Bool):Nat->Bool:=fun i=>(List.range most).any fun n=>decide (lo<=n)&&iterE E n f i
mutual
def Tree.ends (s:List UInt8):Tree->(Nat->Bool)->Nat->Bool
 | .node k m l lo hi=>fun f=>if k=0 then f else if k=1 then stepB m s f else if k=2 then endsCat s l f else if k=3 then endsAlt s l f else repTo (headEnds s l) lo.toNat (mostOf s lo hi+1) f
def endsCat (s:List UInt8):List Tree->(Nat->Bool)->Nat->Bool
 |[]=>fun f=>f
 |t::r=>fun f=>endsCat s r (t.ends s f)
def endsAlt (s:List UInt8):List Tree->(Nat->Bool)->Nat->Bool
 |[]=>fun _ _=>false
 |t::r=>fun f=>orB (t.ends s f) (endsAlt s r f)
def headEnds (s:List UInt8):List Tree->(Nat->Bool)->Nat->Bool
 |[]=>fun f=>f
 |t::_=>t.ends s
end
end
section
open Go.RowKit
def Nf.followAt (N:Nf)(p:Int):List Int:=N.follow.getD p.toNat []
def hasI (l:List Int)(q:Nat):Bool:=l.any fun x=>x==(q:Int)
def markF (N:Nf)(at':List Int)(q:Nat):Bool:=at'.any fun p=>hasI (N.followAt p) q
def keepTo (k:Nat)(f:Nat->Bool)(N:Nf)(c:Nat):List Int:=((List.range k).filter fun q=>f q&&N.setAt q c).map fun(i:Nat)=>(i:Int)
theorem xzpj (l:List Int)(j:Nat)(h:j<l.length)(q:Nat):hasI (l.take (j+1)) q=(hasI (l.take j) q||(l[j]==(q:Int))):=by
 unfold hasI;rw [List.take_succ_eq_append_getElem h,List.any_append];simp
end
section
open Go.RowKit
theorem zeroRw (w:World):(zeroValue 127).run Tryz.prog w=.ok (.agg (rowA fun _=>false)) w:=
 (zero_of_info (P:=Tryz.prog) (t:=127) (v:=.agg (rowA fun _=>false)) (n:=32) (by kernel_rfl)).1 w
theorem newF (w:World)(t:TypeId)(f:Nat->Bool):BlkF (w.alloc (.cells (rowA f) t)) w.heap.size t 32 (rowP f):=BlkIs.new w t _
theorem xzbm (f:Nat->Bool):HasRow 32 (rowP f) 0 f:=⟨by decide,fun k _=>by rw [Nat.zero_add]⟩
theorem RowAt.alloc {W:World}{g o:Nat}{f:Nat->Bool}(h:RowAt W g o f)(ob:Obj):RowAt (W.alloc ob) g o f:=h.step ((Below.refl _ _).alloc (Nat.le_refl _) _)
def bothF (f:Nat->Bool)(k:Nat):Nat->Value:=fun i=>if i<k then rowP f i else .int .u64 0
theorem xzyp (f:Nat->Bool)(k:Nat):putV (bothF f k) k (rowP f k)=bothF f (k+1):=by
 funext i;unfold putV bothF
 by_cases h:i=k
 ·subst h;rw [if_pos rfl,if_pos (by omega)]
 ·rw [if_neg h]
  by_cases h2:i<k
  ·rw [if_pos h2,if_pos (by omega)]
  ·rw [if_neg h2,if_neg (by omega)]
theorem wd_noP (k:Nat):wd (fun _=>false) k=0:=by
 apply Nat.eq_of_testBit_eq
 intro j;rw [xzaw];simp
theorem xztu (f:Nat->Bool):rowP (fun _=>false)=bothF f 0:=by
 funext i;unfold bothF rowP;rw [if_neg (by omega),wd_noP];rfl
set_option maxRecDepth 20000 in
set_option maxHeartbeats 4000000 in
theorem xzqy (g o:Nat)(f f2:Nat->Bool)(g2 o2:Nat)(w:World)(h1:RowAt w g o f)(h2:RowAt w g2 o2 f2):
 Calls Tryz.prog 88 #[.pointer (some ⟨g,o,none⟩),.pointer (some ⟨g2,o2,none⟩)] w fun e w'=>e=.returned (.agg (rowA (sAnd f f2)))/\Below w.heap.size w w':=by
 have z:=zeroRw;obtain⟨Wa,hWa⟩:∃ Wa,(w.alloc (.cells (rowA fun _=>false) 127))=Wa:=⟨_,rfl⟩;obtain⟨Wb,hWb⟩:∃ Wb,(Wa.alloc (.cells (rowA fun _=>false) 127))=Wb:=⟨_,rfl⟩
 have hsz:Wa.heap.size=w.heap.size+1:=by rw [<-hWa];simp
 have ha1:RowAt Wb g o f:=by rw [<-hWb,<-hWa];exact(h1.alloc _).alloc _
 have ha2:RowAt Wb g2 o2 f2:=by rw [<-hWb,<-hWa];exact(h2.alloc _).alloc _
 have hr:BlkF Wb w.heap.size 127 32 (rowP fun _=>false):=by rw [<-hWb,<-hWa];exact BlkIs.alloc (newF w _ _) _
 have hl:BlkF Wb (w.heap.size+1) 127 32 (bothF (sAnd f f2) 0):=by rw [<-hWb,<-xztu,<-hsz];exact newF Wa _ _
 have hbb:Below w.heap.size w Wb:=by rw [<-hWb,<-hWa];exact((Below.refl _ _).alloc (Nat.le_refl _) _).alloc (by simp) _
 have hg1:g<w.heap.size:=World.block_lt_of_cell? w ⟨g,o+0,none⟩ (h1 0 (by decide));have HB:=zd (And.intro ha1 (And.intro ha2 (And.intro hr (And.intro hl hbb))));clear h1 h2 ha1 ha2 hr hl hbb
 go_enter Tryz.func88,Tryz.ntmps88
 go_wp2_with(refine xzdu rfl _ rfl rfl HB.out.2.1 ?_)
 go_loopw [6,7,12] (fun _ _ i wr=>∃ k:Nat,i=.int .i64 k/\k<=32/\Hid (RowAt wr g o f/\BlkF wr w.heap.size 127 32 (rowP fun _=>false)/\BlkF wr (w.heap.size+1) 127 32 (bothF (sAnd f f2) k)/\Below w.heap.size w wr)) (fun _ _ i _=>32 - (intOf i).toNat)
 case atStart=>exact⟨0,rfl,by decide,zd ⟨HB.out.1,HB.out.2.2⟩⟩
 case round=>
  obtain⟨k,rfl,hk,HH⟩:=hrel
  by_cases hp:k<32
  ·have hk1:IntKind.i64.wrap ((k:Int)+1)=((k+1:Nat):Int):=by rw [IntKind.wrap_i64];omega
   have hdl:decide ((k:Int)<32)=true:=by simp;omega
   have hix:=fun u=>idxRw f2 hp u
   have hc:=HH.out.1 k hp;have hc2:=BlkF.cell HH.out.2.2.1 hp;have hfz:=BlkIs.frozen HH.out.2.2.1 k;unfold rowP at hc hix;have hor:=xzqv f f2 k
   have HN:=zd (show RowAt (wr.setCell ⟨w.heap.size+1,k,none⟩ (.int .u64 (wd (sAnd f f2) k:Nat))) g o f/\BlkF (wr.setCell ⟨w.heap.size+1,k,none⟩ (.int .u64 (wd (sAnd f f2) k:Nat))) w.heap.size 127 32 (rowP fun _=>false)/\BlkF (wr.setCell ⟨w.heap.size+1,k,none⟩ (.int .u64 (wd (sAnd f f2) k:Nat))) (w.heap.size+1) 127 32 (bothF (sAnd f f2) (k+1))/\Below w.heap.size w (wr.setCell ⟨w.heap.size+1,k,none⟩ (.int .u64 (wd (sAnd f f2) k:Nat)))from
    ⟨HH.out.1.heap (Below.heap_setCell _ _ _ _ (by show g≠w.heap.size+1;omega)),BlkIs.far HH.out.2.1 (by show w.heap.size≠w.heap.size+1;omega) _,by rw [<-xzyp];exact HH.out.2.2.1.put _ _,HH.out.2.2.2.setCell (p:=⟨w.heap.size+1,k,none⟩) (by show w.heap.size<=w.heap.size+1;omega) _⟩)
   go_wp2;exact⟨⟨k+1,rfl,by omega,HN⟩,by simp [intOf];omega⟩
  ·have hdl:decide ((k:Int)<32)=false:=by simp;omega
   obtain rfl:k=32:=by omega
   have hro:RowAt wr (w.heap.size+1) 0 (sAnd f f2):=fun i hi=>by
    rw [Nat.zero_add,BlkF.cell HH.out.2.2.1 hi];unfold bothF;rw [if_pos hi]
   have HRO:=zd hro;clear hro
   go_wp2_with(first
    |(refine xzcc rfl _ rfl rfl HRO.out ?_)
    |(refine xzam rfl 127 _ _ rfl rfl rfl HH.out.2.1 (by rw [xzav,xzax]) (by rw [xzav];exact infoRw) (xzff _) ?_;intro w9 hb9 hw9))
   have hl9:(loadVar 127 ⟨w.heap.size,0,none⟩).run Tryz.prog w9=.ok (.agg (rowA (sAnd f f2))) w9:=loadVarRw (BlkF.row (t:=127) (N:=32) (F:=rowP (sAnd f f2)) hb9 (xzbm _));exact⟨rfl,_,xzae rfl rfl hl9,⟨rfl,hw9.2.1 _ _ (Nat.le_refl _) HH.out.2.2.2⟩⟩
end
section
open Go.RowKit
attribute [local irreducible] FreeW
def marks0 (N:Nf)(b:Bool)(q:Nat):Bool:=b&&hasI N.first q
def marksS (N:Nf)(b:Bool)(at':List Int)(q:Nat):Bool:=marks0 N b q||markF N at' q
theorem RowI.low {B B':Nat}{W:World}{v:Value}{l:List Int}(h:RowI B W v l)(hb:B'<=B):RowI B' W v l:=
 ⟨h.1,h.2.imp id fun⟨g,cap,cur,e,h1,r⟩=>⟨g,cap,cur,e,Nat.le_trans hb h1,r⟩⟩
end
end Go.Proofs.YtdjpphjpnkfeiaaGreatDoor
