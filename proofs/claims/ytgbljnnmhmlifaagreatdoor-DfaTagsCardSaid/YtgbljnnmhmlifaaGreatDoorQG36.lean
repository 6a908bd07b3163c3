/-
 WHAT split OF PACKAGE class ANSWERS: the classes parted by the sets: a contract. Condition: the table of math/bits lies as it is laid; the sets lie in memory; 64 sets at most; classes are bytes.
-/
import Derived.Test.YtgbljnnmhmlifaaGreatDoorQG35
import Derived.Test.YtgbljnnmhmlifaaGreatDoorQG31
import Derived.Test.YtgbljnnmhmlifaaGreatDoorQG13
import Derived.Test.YtgbljnnmhmlifaaGreatDoorQG05
namespace Go.Proofs.YtgbljnnmhmlifaaGreatDoor
section
open Go.RowKit
def keyG (f:Nat->Nat)(ms:List (Nat->Bool))(b:Nat):Nat×Nat:=(rowR f (allP ms) (2*b),rowR f (allP ms) (2*b+1))
theorem xzph (f:Nat->Nat)(ms:List (Nat->Bool))(b:Nat):(keyG f ms b).1=f b:=by
 show rowR f (allP ms) (2*b)=f b
 unfold rowR;rw [if_pos (by omega),show 2*b / 2=b by omega]
theorem xzpi (f:Nat->Nat)(ms:List (Nat->Bool))(b:Nat):(keyG f ms b).2=wd (fun j=>allP ms j b) 0:=by
 show rowR f (allP ms) (2*b+1)=_
 unfold rowR;rw [if_neg (by omega),show(2*b+1) / 2=b by omega]
theorem keyG_lt (f:Nat->Nat)(hf:∀ b,b<256->f b<256)(ms:List (Nat->Bool))(b:Nat)(hb:b<256):(keyG f ms b).1<18446744073709551616/\(keyG f ms b).2<18446744073709551616:=by
 rw [xzph,xzpi];exact⟨Nat.lt_trans (hf b hb) (by decide),xzgv _ _⟩
theorem keyG_eq (f:Nat->Nat){ms:List (Nat->Bool)}(hms:ms.length<=64)(a b:Nat):keyG f ms a=keyG f ms b↔f a=f b/\∀ m∈ms,m a=m b:=by
 have hp:keyG f ms a=keyG f ms b↔f a=f b/\wd (fun j=>allP ms j a) 0=wd (fun j=>allP ms j b) 0:=by
  rw [<-xzph f ms a,<-xzph f ms b,<-xzpi f ms a,<-xzpi f ms b];exact Prod.ext_iff
 rw [hp];refine and_congr Iff.rfl ⟨fun h m hm=>?_,fun h=>xzbg fun j _=>?_⟩
 ·obtain⟨j,hj,e⟩:=List.mem_iff_getElem.1 hm
  have:=xzsq h (j:=j) (by omega);unfold allP at this;rw [Nat.mul_zero,Nat.zero_add,List.getD_eq_getElem?_getD,List.getElem?_eq_getElem hj,e]at this;exact this
 ·unfold allP
  rw [Nat.mul_zero,Nat.zero_add,List.getD_eq_getElem?_getD]
  rcases Nat.lt_or_ge j ms.length with hj|hj
  ·rw [List.getElem?_eq_getElem hj]
   exact h _ (List.getElem_mem hj)
  ·rw [List.getElem?_eq_none hj];rfl
theorem xznl (W:World)(b o:Nat)(v:Value):W.grownBy (W.setCell ⟨b,o,none⟩ v) (some b):=
 ⟨rfl,rfl,rfl,Nat.le_of_eq (World.size_setCell _ _ _).symm,fun i _ hi=>Below.heap_setCell W ⟨b,o,none⟩ v i (fun e=>hi (by rw [e]))⟩
def numTo (g:Nat->Nat×Nat)(f:Nat->Nat)(t i:Nat):Nat:=if i<t then num g i else f i
theorem yzco (g:Nat->Nat×Nat)(f:Nat->Nat)(n:Int){t:Nat}(ht:t<256):(clsC (numTo g f t) n).setIfInBounds t (.int .u8 (num g t:Nat))=clsC (numTo g f (t+1)) n:=by
 rw [yzgh _ _ ht]
 refine xzeh n fun i _=>?_
 unfold updN numTo
 by_cases e:i=t
 ·subst e;simp
 ·rw [if_neg e]
  by_cases h:i<t
  ·rw [if_pos h,if_pos (by omega)]
  ·rw [if_neg h,if_neg (by omega)]
set_option maxRecDepth 100000 in
set_option maxHeartbeats 2000000 in
theorem yzcp (f:Nat->Nat)(n:Int)(hf:∀ b,b<256->f b<256)(ms:List (Nat->Bool))(hms:ms.length<=64)(A:Option Addr)(c:Nat)(w:World)(hT:Tab w)(hr:SetRow w w.heap.size A ms):
 Calls Tryz.prog 72 #[.agg (clsC f n),.slice A ms.length c] w fun e w'=>e=.returned (.agg (clsC (num (keyG f ms)) (cnt (keyG f ms) 256:Nat)))/\Below w.heap.size w w':=by
 have z:=zeroC;have hmm:= @run_makeMap Tryz.prog;have HRW:=zd (yzgx f n hf ms hms A c);have HK:=zd (keyG_lt f hf ms);have HT:=zd hT;have HR:=zd hr;obtain⟨W0,hW0⟩:∃ W0,W0=(((w.alloc (.cells (clsC f n) 36)).alloc (.cells (clsC (fun _=>0) 0) 36)).alloc (.map #[] 0)).alloc (.cells #[.map (some (w.heap.size+1+1))] 137):=⟨_,rfl⟩
 have hb:BlkIs W0 w.heap.size 36 (clsC f n):=by rw [hW0];exact(((BlkIs.new w _ _).alloc _).alloc _).alloc _
 have hz0:BlkIs W0 (w.heap.size+1) 36 (clsC (fun _=>0) 0):=by
  have:=(((BlkIs.new (w.alloc (.cells (clsC f n) 36)) 36 (clsC (fun _=>0) 0)).alloc (.map #[] 0)).alloc (.cells #[.map (some (w.heap.size+1+1))] 137));rw [World.size_alloc]at this;rw [hW0];exact this
 have hbx:BlkIs W0 (w.heap.size+3) 137 #[.map (some (w.heap.size+2))]:=by
  have:=BlkIs.new (((w.alloc (.cells (clsC f n) 36)).alloc (.cells (clsC (fun _=>0) 0) 36)).alloc (.map #[] 0)) 137 #[.map (some (w.heap.size+2))];rw [World.size_alloc,World.size_alloc,World.size_alloc]at this;rw [hW0];exact this
 have hsn:SeenIs W0 (w.heap.size+2) (keyG f ms) 0:=by
  have:=SeenIs.start ((w.alloc (.cells (clsC f n) 36)).alloc (.cells (clsC (fun _=>0) 0) 36)) (keyG f ms);rw [World.size_alloc,World.size_alloc]at this;rw [hW0];exact this.kept (World.grownBy_alloc _ _ none) (by simp)
 have hBe:Below w.heap.size w W0:=by
  rw [hW0];exact((((Below.refl w.heap.size w).alloc (Nat.le_refl _) _).alloc (by simp) _).alloc (by simp;omega) _).alloc (by simp;omega) _
 have HB:=zd hb;have HS:=zd (And.intro hz0 (And.intro hbx (And.intro hsn hBe)));clear hf hT hr hb hz0 hbx hsn hBe;subst hW0
 go_enter Tryz.func72,Tryz.ntmps72
 go_wp2_with(first
  |refine xzbs rfl (.tmp 2) rfl rfl HB.out ?_
  |(go_at_call 91;refine(HRW.out _ (HT.out.step HS.out.2.2.2) ((HR.out.below HS.out.2.2.2).wide HS.out.2.2.2.size)).mono ?_;rintro e w2 ⟨rfl,hb2⟩))
 have hs2:=HS.out;have H2:=zd (And.intro (HB.out.step hb2) (And.intro (hs2.1.step hb2) (And.intro (hs2.2.1.step hb2) (And.intro (hs2.2.2.1.kept (row:=none) ⟨hb2.os,hb2.tape,hb2.output,hb2.size,fun i hi _=>hb2.block i hi⟩ (by simp)) (hs2.2.2.2.trans (hb2.mono hs2.2.2.2.size))))));clear hs2 HB HS hb2 HRW;generalize hR:rowR f (allP ms)=R at*
 have hkg:∀ b,keyG f ms b=(R (2*b),R (2*b+1)):=fun b=>by unfold keyG;rw [hR]
 generalize hgk:keyG f ms=g at*;go_wp2
 go_loopw [14] (fun s wr=>∃ t:Nat,t<=256/\s=.int .i64 t/\Hid (BlkIs wr w.heap.size 36 (clsC (numTo g f t) n)/\BlkIs wr (w.heap.size+1) 36 (clsC (fun _=>0) 0)/\
  BlkIs wr (w.heap.size+3) 137 #[.map (some (w.heap.size+2))]/\SeenIs wr (w.heap.size+2) g t/\Below w.heap.size w wr)) (fun s _=>256 - (intOf s).toNat)
 case atStart=>
  refine⟨0,by omega,rfl,zd ⟨?_,H2.out.2⟩⟩;rw [xzeh (f':=f) n (fun b _=>by unfold numTo;rw [if_neg (by omega)])];exact H2.out.1
 case round=>
  obtain⟨t,ht,rfl,HH⟩:=hrel
  by_cases hlt:t<256
  ·have hix:=idxW R hlt wr
   have HNA:=zd (xzyd g t hlt (fun b hb=>HK.out b (by omega)) (w.heap.size+2) (w.heap.size+3) (wr.alloc (.cells #[.int .u64 (R (2*t)),.int .u64 (R (2*t+1))] 139)) (HH.out.2.2.1.alloc _) (HH.out.2.2.2.1.kept (World.grownBy_alloc _ _ none) (by simp)));rw [hkg t]at HNA;generalize R (2*t)=x at*;generalize R (2*t+1)=y at*
   go_wp2_with(first
    |(go_at_call 90;refine HNA.out.mono ?_;rintro e w3 ⟨rfl,hs3,hg3⟩;have hc3:=xzir (HH.out.1.alloc _) hg3 (by simp);have hcc:=clsBy hc3 hlt;have hcf:=hc3.frozen t))
   have h2:=(xzir (HH.out.2.1.alloc _) hg3 (by simp)).far (p:=⟨w.heap.size,t,none⟩) (by simp) (.int .u8 (num g t:Nat));have h3:=(xzir (HH.out.2.2.1.alloc _) hg3 (by simp)).far (p:=⟨w.heap.size,t,none⟩) (by simp) (.int .u8 (num g t:Nat));have h1:=hc3.put t (.int .u8 (num g t:Nat));rw [yzco g f n hlt]at h1;have h4:=hs3.kept (xznl w3 w.heap.size t (.int .u8 (num g t:Nat))) (by simp);have hsz:=HH.out.2.2.2.2.size;have h5:=(((HH.out.2.2.2.2.alloc hsz _).grown hg3 (by simp;omega) (fun k e=>by cases e;omega)).setCell (p:=⟨w.heap.size,t,none⟩) (Nat.le_refl _) (.int .u8 (num g t:Nat)));exact⟨⟨t+1,by omega,by go_num,zd ⟨h1,h2,h3,h4,h5⟩⟩,by simp [intOf];omega⟩
  ·obtain rfl:t=256:=by omega
   obtain⟨h1,h2,h3,h4,h5⟩:=HH.out;obtain⟨D,d1,d2,_,_⟩:=h4;have hc0:=h3.cell 0;simp only [zq]at hc0;have hcn:=(h1.cell 256).trans (yzbq _ n);have hfn:=h1.frozen 256;have k1:=h1.put 256 (.int .i64 (cnt g 256:Nat));rw [yzbr,xzeh (f':=num g) _ (fun b hb=>by unfold numTo;rw [if_pos hb])]at k1;have k2:=h2.far (p:=⟨w.heap.size,256,none⟩) (by simp) (.int .i64 (cnt g 256:Nat));have k5:=h5.setCell (p:=⟨w.heap.size,256,none⟩) (Nat.le_refl _) (.int .i64 (cnt g 256:Nat));have HD:=zd d1;have H9:=zd (And.intro k1 (And.intro k2 k5));clear h1 h2 h3 h5 d1 k1 k2 k5 HH H2 HK
   go_wp2_with(first
    |(at_len;refine wpList_len_own _ rfl _ 137 rfl 139 5 Tryz.underlying137 _ (w.heap.size+2) 256 _ rfl HD.out ?_;rw [d2])
    |refine xzbs rfl (.tmp 2) rfl rfl H9.out.1 ?_
    |(refine xzam rfl 36 (.tmp 4) (.tmp 28) rfl rfl (new:=clsC (num g) (cnt g 256:Nat)) rfl H9.out.2.1 (by rw [xzaj,xzaj]) (by rw [xzaj];exact infoC) (xzfa _ _) ?_;intro w4 hw4 hwr))
   exact bodyPost_ret (xzae rfl (by simp [Act.put]) (loadVarC hw4)) rfl ⟨by rw [hgk],hwr.2.1 _ _ (Nat.le_succ _) H9.out.2.2⟩
end
section
open Go.RowKit
def KeepsBut (g:Nat)(W W':World):Prop:=∀ (k:Nat) (t:TypeId) (cs:Array Value),k≠g->BlkIs W k t cs->BlkIs W' k t cs
theorem KeepsBut.trans {g:Nat}{A B C:World}(h:KeepsBut g A B)(k:KeepsBut g B C):KeepsBut g A C:=fun i t cs hi hb=>k i t cs hi (h i t cs hi hb)
theorem xzis (g:Nat)(W:World)(l:Nat)(o o':Obj)(hl:W.heap[l]? =some o)(ho:o.isCells=false):KeepsBut g W (W.putObj l o'):=fun k t cs _ hb=>by
 have hne:k≠l:=fun e=>by
  subst e;unfold BlkIs at hb;rw [hb]at hl
  cases hl
  cases ho
 exact(World.putObj_heap_other hne).trans hb
theorem xzye (W:World)(row:Option Nat):W.grownBy W.drew row:=⟨rfl,rfl,rfl,Nat.le_refl _,fun _ _ _=>rfl⟩
attribute [local go_sem] Oper.semAt_some
def ChunkIs (v:Value)(k:Int)(w:World):Ending->World->Prop:=fun e w'=>
 ∃ B1 B2,e=.returned (.func (.func 89) #[] #[.pointer (some ⟨B1,0,none⟩),.pointer (some ⟨B2,0,none⟩)])/\BlkIs w' B1 25 #[v]/\BlkIs w' B2 3 #[.int .i64 k]/\w.heap.size<=B1/\w.heap.size<=B2/\Below w.heap.size w w'
set_option maxHeartbeats 400000 in
theorem xzry (A:Option Addr)(len cap:Nat)(w:World):Calls Tryz.prog 71 #[.slice A len cap,.int .i64 64] w (ChunkIs (.slice A len cap) 64 w):=by
 go_enter Tryz.func71,Tryz.ntmps71
 go_wp2;go_ret;have h2:=BlkIs.new (w.alloc (.cells #[.slice A len cap] 25)) 3 #[.int .i64 64];rw [World.size_alloc]at h2;exact⟨w.heap.size,w.heap.size+1,rfl,(BlkIs.new _ _ _).alloc _,h2,Nat.le_refl _,Nat.le_succ _,((Below.refl _ _).alloc (Nat.le_refl _) _).alloc (by simp) _⟩
theorem xzua (n:Nat)(l B1 B2 c:Nat)(A:Option Addr)(J:World->Prop)
 (W:World)(hb1:BlkIs W B1 25 #[.slice A 0 c])(hJ:J W):
 CallsIn Fence.wide n Tryz.prog 89 #[.func (.yield l) #[] #[],.pointer (some ⟨B1,0,none⟩),.pointer (some ⟨B2,0,none⟩)] W fun e W'=>(∃ v,e=.returned v)/\J W':=by
 have c1:=hb1.cell 0;simp only [zq]at c1;refine callsIn_of_wp Tryz.func89 rfl trivial ?_ rfl;simp only [Tryz.ntmps89,List.size_toArray,List.length_cons,List.length_nil,Nat.reduceAdd,Nat.reduceSub,Array.replicate_succ,Array.replicate_zero,List.push_toArray,List.append_toArray,List.nil_append,List.cons_append]
 gi_wp2
 gi_loopw [4] (fun s wr=>s=.int .i64 0/\wr=W) (fun _ _=>0)
 case atStart=>exact⟨rfl,rfl⟩
 case round=>
  obtain⟨rfl,rfl⟩:=hrel
  gi_wp2
  go_end0
  exact⟨⟨_,rfl⟩,hJ⟩
end
section
open Go.RowKit
def saysG (ms:List (Nat->Bool))(b:Nat):List Bool:=ms.map fun m=>m b
theorem xzrz (ms:List (Nat->Bool))(a b:Nat):saysG ms a=saysG ms b↔ ∀ m∈ms,m a=m b:=by
 unfold saysG;exact List.map_inj_left
theorem xzpj:∀ b,cnt (saysG []) (b+1)=1
 |0=>by decide
 |b+1=>by
  have h:old (saysG []) (b+1)=true:=old_iff.2 ⟨0,by omega,rfl⟩;rw [xzcd,xzpj b,h]
  rfl
theorem xzyf (b:Nat):num (saysG []) b=0:=by
 have h:fst' (saysG []) b=0:=xzle rfl (fun j hj=>absurd hj (by omega));unfold num;rw [h]
 rfl
theorem yzha:clsC (fun _=>0) 1=clsC (num (saysG [])) (cnt (saysG []) 256:Nat):=by
 rw [xzpj 255]
 exact xzeh _ fun b _=>(xzyf b).symm
section
variable {F : Fence} {nF : Nat} {P : Program} {ops : Array Oper} {rest : List Oper} {o : Oper} {a : Act} {w : World} {Q : Exit → Act → World → Prop}
theorem xzgx (hg:o.guard=none)(ty:TypeId)(x:Operand)(hop:o.op=Op.load ty x){p v:Value}(hx:a.eval x=p)(hrun:(Instr.loadAt ty p).run P w=.ok v w)(h:wpListIn F nF P ops Q rest (a.put o.dst v) w):wpListIn F nF P ops Q (o::rest) a w:=by
 refine wpListIn_plain hg fun K' hK'=>?_
 unfold Oper.wpIn;refine⟨by simp [Oper.about,hop],?_⟩;rw [Oper.semAt_plain F _ _ (by rw [hop];intro c hc';cases hc')];simp only [execOp,hop,hx,Sem.run_bind,Sem.run_pure,hrun,Result.andThen_ok];exact hK' _ _ h
theorem xzgl (hg:o.guard=none)(ty:TypeId)(x y:Operand)(hop:o.op=Op.store ty x y){p v:Value}{w':World}(hx:a.eval x=p)(hy:a.eval y=v)(hrun:(Instr.storeAt ty p v).run P w=.ok () w')(h:wpListIn F nF P ops Q rest (a.put o.dst undef) w'):wpListIn F nF P ops Q (o::rest) a w:=by
 refine wpListIn_plain hg fun K' hK'=>?_
 unfold Oper.wpIn;refine⟨by simp [Oper.about,hop],?_⟩;rw [Oper.semAt_plain F _ _ (by rw [hop];intro c hc';cases hc')];simp only [execOp,hop,hx,hy,Sem.run_bind,Sem.run_pure,hrun,Result.andThen_ok];exact hK' _ _ h
end
theorem xzpk (n:Nat)(G B1 B2 c:Nat)(A:Option Addr)(w:World)(hb1:BlkIs w B1 25 #[.slice A 0 c]):
 SeqStopsK Fence.wide n Tryz.prog 89 #[.pointer (some ⟨B1,0,none⟩),.pointer (some ⟨B2,0,none⟩)] (fun _:Unit=>#[.slice A 0 0]) (KeepsBut G) (fun xs:List Unit=>xs.length=0) (fun pre:List Unit=>pre.length=0) 0 w:=
 fun l J _ W hW _ _ _ h0'=>(xzua n l B1 B2 c A (fun W'=>J [] W') W (hb1.step hW) h0').mono fun _ _ h=>⟨h.1,.inl ⟨[],rfl,h.2⟩⟩
attribute [local go_sem] Oper.semAt_some
set_option maxRecDepth 100000 in
set_option maxHeartbeats 2000000 in
theorem yzcq (A:Option Addr)(c:Nat)(w:World):
 Calls Tryz.prog 40 #[.slice A 0 c] w fun e w'=>e=.returned (.agg (clsC (num (saysG [])) (cnt (saysG []) 256:Nat)))/\Below w.heap.size w w':=by
 rw [<-yzha];have z:=zeroC;have hz0:=(BlkIs.new w 36 (clsC (fun _=>0) 0)).alloc (.cells (clsC (fun _=>0) 0) 36);have hg0:=BlkIs.new (w.alloc (.cells (clsC (fun _=>0) 0) 36)) 36 (clsC (fun _=>0) 0);rw [World.size_alloc]at hg0;have hB0:=((Below.refl w.heap.size w).alloc (Nat.le_refl _) (.cells (clsC (fun _=>0) 0) 36)).alloc (by simp) (.cells (clsC (fun _=>0) 0) 36);have H0:=zd (And.intro hz0 (And.intro hg0 hB0));clear hz0 hg0 hB0;refine(callsIn_wide (n:=5)).1 ?_;refine callsIn_of_wp_marks Tryz.func40 rfl trivial ?_ rfl;simp only [Tryz.ntmps40,List.size_toArray,List.length_cons,List.length_nil,Nat.reduceAdd,Nat.reduceSub,Array.replicate_succ,Array.replicate_zero,List.push_toArray,List.append_toArray,List.nil_append,List.cons_append];refine wpIn_wide.2 ?_
 go_wp2_with(first
  |refine xzbk rfl 36 _ rfl (cells:=clsC (fun _=>0) 1) (by simpa [Act.eval]using xzrp) ?_
  |(refine xzam rfl 36 (.tmp 3) (.tmp 5) rfl rfl (new:=clsC (fun _=>0) 1) rfl H0.out.2.1 (by rw [xzaj,xzaj]) (by rw [xzaj];exact infoC) (xzfa _ _) ?_;intro w1 hw1 hwr)
  |(go_at_call 71;go_must(refine(xzry _ _ _ _).mono ?_);rintro e w2 ⟨B1,B2,rfl,hx1,hx2,hl1,hl2,hb2⟩))
 have hBw1:Below w.heap.size w w1:=hwr.2.1 _ _ (Nat.le_succ _) H0.out.2.2
 have hlw:w1.heap.size=w.heap.size+2:=by rw [hwr.2.2];simp
 have hBw2:=hBw1.trans (hb2.mono hBw1.size);have H2:=zd (And.intro ((hwr.blk (by omega) H0.out.1).step hb2) (And.intro (hw1.step hb2) hBw2))
 have hGw2:w.heap.size+2<=w2.heap.size:=by have:=hb2.size;omega
 have HX:=zd (And.intro hx1 hx2);have hcs:=HX.out;clear hBw1 hBw2 hw1 hwr hx1 hx2 hb2 H0 hl1 hl2 hlw;refine(wpIn_wide (n:=5)).1 ?_
 refine wpIn_rangeFunc_ownG rfl (by omega) (gf:=89) (lb:=#[.pointer (some ⟨B1,0,none⟩),.pointer (some ⟨B2,0,none⟩)]) rfl trivial
  (enters_of Tryz.func89 (by kernel_rfl) rfl)
  (xzpk _ (w.heap.size+1) B1 B2 c A w2 hcs.1) KeepsBut.trans (fun W l o o' _ hl ho _=>xzis _ W l o o' hl ho) (Below.refl _ _) (fun _=>rfl)
  (fun _ W=>BlkIs W w.heap.size 36 (clsC (fun _=>0) 0)/\BlkIs W (w.heap.size+1) 36 (clsC (fun _=>0) 1)/\Below w.heap.size w W)
  (fun _ _ _=>False) ?hI (fun _ _ _ _ _ h _ _=>h) ⟨H2.out.1,H2.out.2.1,H2.out.2.2⟩
  (fun _=>{tmps:=#[.slice A 0 c,undef,.pointer (some ⟨w.heap.size,0,none⟩),.pointer (some ⟨w.heap.size+1,0,none⟩),.slice A 0 0,.agg (clsC (fun _=>0) 1),
   .slice A 0 c,.func (.func 89) #[] #[.pointer (some ⟨B1,0,none⟩),.pointer (some ⟨B2,0,none⟩)],.slice A 0 0,undef,undef,undef,undef],defers:=[]}) ?assign ?body ?done ?stop
 case hI=>
  rintro s A A' row ⟨h1,h2,h3⟩ hg hro
  have hr':∀ r,row=some r->∃ o:Obj,A.heap[r]? =some o/\o.isCells=false:=fun r e=>(hro r e).2
  exact⟨xzgs h1 hg hr',xzgs h2 hg hr',ownFrom_below (β:=Unit) (Nat.le_refl _) (by omega) () A A' row h3 hg hro⟩
 case assign=>
  intro l x W K hK
  gi_wp2
  exact hK
 case body=>
  rintro l pre x W _ hlt;exact absurd hlt (by omega)
 case done=>
  rintro D xs W hD hS ⟨h1,h2,h3⟩ hK;have H1:=zd (And.intro h1 (And.intro h2 h3));clear h1 h2 h3
  go_wp2_with(first
   |refine xzbs rfl (.tmp 3) rfl rfl H1.out.2.1 ?_
   |(refine xzam rfl 36 (.tmp 2) (.tmp 12) rfl rfl (new:=clsC (fun _=>0) 1) rfl H1.out.1 (by rw [xzaj,xzaj]) (by rw [xzaj];exact infoC) (xzfa _ _) ?_;intro w5 hw5 hwr5))
  have hK5:=(hwr5.1 D (by omega)).trans hK;have hfin:BlkIs (w5.putObj D (.deferred none)) w.heap.size 36 (clsC (fun _=>0) 1):=(World.putObj_heap_other (by omega)).trans hw5;have hBe:=(hwr5.2.1 _ _ (Nat.le_refl _) H1.out.2.2).trans (belowK_b (w:=w) (Nat.le_refl _) w5 D _ (.deferred none) (by omega) hK5 rfl rfl);refine⟨by simp,.inl ⟨_,_,rfl,run_takeDeferred hK5,?_⟩⟩;exact⟨_,xzae rfl (by simp) (loadVarC hfin),rfl,hBe⟩
 case stop=>
  rintro D c pre W _ _ h _;exact h.elim
end
section
open Go.RowKit
def mk0 (v0 v1 v2 v3 v4:Value)(em:Int)(M:Nat):MkV:={of:=fun _=>0,n:=0,next:=.slice none 0 0,tag:=.slice none 0 0,v0:=v0,v1:=v1,v2:=v2,v3:=v3,v4:=v4,em:=em,fol:=.slice none 0 0,tak:=.slice none 0 0,sts:=.slice none 0 0,nums:=.map (some M),reach:=fun _=>false}
theorem yzhb (A0 A1 A2 A3 A4:Option Addr)(n0 n1 n2 n3 n4 c0 c1 c2 c3 c4:Nat)(em:Int)(M:Nat):Tryz.prog.built 67 [(1,.agg #[.slice A0 n0 c0,.slice A1 n1 c1,.slice A2 n2 c2,.slice A3 n3 c3,.slice A4 n4 c4,.int .i64 em]),(5,.map (some M))]=
 some (cellsN 301 (mkF (mk0 (.slice A0 n0 c0) (.slice A1 n1 c1) (.slice A2 n2 c2) (.slice A3 n3 c3) (.slice A4 n4 c4) em M))):=by
 kernel_rfl
theorem BlkF.putsL {g:Nat}{t:TypeId}{N:Nat}:∀ (vs:List Value) (o:Nat) (W:World) (F:Nat->Value),BlkF W g t N F->BlkF (W.setCells g o vs) g t N (fun i=>if o<=i/\i<o+vs.length then vs.getD (i - o) undef else F i)
 |[],o,W,F,h=>by
  have e:(fun i=>if o<=i/\i<o+([]:List Value).length then([]:List Value).getD (i - o) undef else F i)=F:=by funext i;rw [if_neg (by simp)]
  rw [e];exact h
 |v::r,o,W,F,h=>by
  rw [World.setCells];have:=BlkF.putsL r (o+1) _ _ (h.put o v)
  have e:(fun i=>if o+1<=i/\i<o+1+r.length then r.getD (i - (o+1)) undef else putV F o v i)=(fun i=>if o<=i/\i<o+(v::r).length then(v::r).getD (i - o) undef else F i):=by
   funext i;unfold putV
   rw [List.length_cons]
   by_cases h1:i=o
   ·subst h1;rw [if_neg (by omega),if_pos rfl,if_pos (by omega),Nat.sub_self];rfl
   ·by_cases h2:o+1<=i/\i<o+1+r.length
    ·rw [if_pos h2,if_pos (by omega),show i - o=(i - (o+1))+1 by omega,List.getD_cons_succ]
    ·rw [if_neg h2,if_neg h1,if_neg (by omega)]
  rw [e]at this;exact this
theorem putsC (V:MkV)(f:Nat->Nat)(n:Nat){W:World}{g:Nat}(h:BlkF W g 67 301 (mkF V)):BlkF (W.setCells g 0 (clsC f (n:Nat)).toList) g 67 301 (mkF {V with of:=f,n:=n}):=by
 have h1:=BlkF.putsL (clsC f (n:Nat)).toList 0 W (mkF V) h
 have hl:(clsC f (n:Nat)).toList.length=257:=by rw [Array.length_toList,xzaj]
 have e:cellsN 301 (fun i=>if 0<=i/\i<0+(clsC f (n:Nat)).toList.length then(clsC f (n:Nat)).toList.getD (i - 0) undef else mkF V i)=cellsN 301 (mkF {V with of:=f,n:=n}):=xzao fun i hi=>by
  rw [hl]
  by_cases h2:i<257
  ·rw [if_pos (by omega),Nat.sub_zero,List.getD_eq_getElem?_getD,Array.getElem?_toList]
   unfold mkF
   by_cases h3:i<256
   ·rw [xzro f _ h3,if_pos h3];rfl
   ·have:i=256:=by omega
    subst this;rw [yzbq];rfl
  ·rw [if_neg (by omega)]
   have a: ¬ i<256:=by omega
   have b: ¬ i=256:=by omega
   unfold mkF;simp only [if_neg a,if_neg b]
 unfold BlkF at h1 ⊢;rw [<-e];exact h1
end
section
open Go.RowKit
attribute [local irreducible] FreeW textFrame
theorem box_mk (D:MkV)(W:World):(Instr.box 67 (.agg (cellsN 301 (mkF D)))).run Tryz.prog W=.ok (.pointer (some ⟨W.heap.size,0,none⟩)) (W.alloc (.cells (cellsN 301 (mkF D)) 67)):=by
 kernel_rfl
theorem yzhc {w:World}{ms:List (Nat->Bool)}{A:Option Addr}{c:Nat}(h:SetsV w ms (.slice A ms.length c)):SetRow w w.heap.size A ms:=fun hne=>by
 obtain⟨A',c',e,_,hs⟩:=h
 injection e with e _ _
 subst e;obtain⟨b,o,e1,l1,g1⟩:=hs hne;refine⟨b,o,e1,l1,fun k m hk j v hv=>?_⟩;have hk':k<ms.length:=(List.getElem?_eq_some_iff.1 hk).1
 have hm:m=ms[k]:=by rw [List.getElem?_eq_getElem hk']at hk;exact(Option.some.inj hk).symm
 subst hm;have hj:j<4:=(List.getElem?_eq_some_iff.1 hv).1;rw [g1 k hk' j hj,<-hv]
 match j,hj with
 |0,_=>rfl
 |1,_=>rfl
 |2,_=>rfl
 |3,_=>rfl
theorem yzhd {w:World}{ms:List (Nat->Bool)}{A:Option Addr}{c:Nat}(h:SetsV w ms (.slice A ms.length c)):ms.length<=c:=by
 obtain⟨A',c',e,hc,_⟩:=h
 injection e with _ _ e
 subst e;exact hc.1
def ofN (N:Nf):Nat->Nat:=num (saysG N.sets)
def clN (N:Nf):Nat:=cnt (saysG N.sets) 256
def spN (N:Nf)(w:World):SP:=⟨w.heap.size,w,N,ofN N,clN N,w.heap.size+2,w.heap.size+1⟩
theorem yzhe (N:Nf)(w W4:World)(v0 v1 v2 v3 v4:Value)(h:NfaAt w N (.agg #[v0,v1,v2,v3,v4,.int .i64 N.empty]))(hb:Below w.heap.size w W4)
 (hblk:BlkF W4 (w.heap.size+2) 67 301 (mkF {mk0 v0 v1 v2 v3 v4 N.empty (w.heap.size+1)with of:=ofN N,n:=clN N}))(hm:NumIs W4 (w.heap.size+1) []):
 SM (spN N w) (fun k=>if k=w.heap.size+2 then 1 else if k=w.heap.size+1 then 2 else 0) ⟨[],[],[],[],[],[]⟩ {mk0 v0 v1 v2 v3 v4 N.empty (w.heap.size+1)with of:=ofN N,n:=clN N} (fun _=>0) W4:=by
 exact⟨hb,⟨rfl,by show w.heap.size<=w.heap.size+2;omega,by show w.heap.size<=w.heap.size+1;omega⟩,⟨rfl,rfl,rfl,rfl⟩,h,fun _=>hblk,fun _=>hm,fun _=>RowsP.nil _ _,fun _=>RowsP.nil _ _,fun _=>RowsP.nil _ _,fun _=>World.ownsRow_nil _ _ _ _,fun _=>RowI.nil _ _,fun i hi _=>absurd hi (by simp),fun i hi=>absurd hi (by simp),⟨by simp [spN],by simp [spN],fun k hk=>(by cases hk),fun k hk=>(by cases hk),fun k hk=>(by cases hk),fun k hk=>(by cases hk),fun k hk=>(by cases hk)⟩,fun i hi=>absurd hi (by simp)⟩
end
section
open Go.RowKit
structure Df where
 of:Nat->Nat
 n:Int
 next:List (List Int)
 tag:List Int
def dfF (f:Nat->Nat)(n:Int)(vn vt:Value)(i:Nat):Value:=
 if i<256 then .int .u8 (f i)else
 if i=256 then .int .i64 n else
 if i=257 then vn else vt
def dfC (f:Nat->Nat)(n:Int)(vn vt:Value):Array Value:=cellsN 259 (dfF f n vn vt)
theorem xzak (f:Nat->Nat)(n:Int)(vn vt:Value):(dfC f n vn vt).size=259:=xzaw _ _
theorem xzsa (f:Nat->Nat)(n:Int)(vn vt:Value){i:Nat}(h:i<259):(dfC f n vn vt)[i]? =some (dfF f n vn vt i):=xzbx _ h
theorem xzfv (f:Nat->Nat)(n:Int)(vn vt:Value)(hn:vn.oneCell'=true)(ht:vt.oneCell'=true):(dfC f n vn vt).all (·.oneCell')=true:=xzfs fun i=>by
 unfold dfF
 split
 ·rfl
 ·split
  ·rfl
  ·split
   ·exact hn
   ·exact ht
def DfB (W:World)(g:Nat)(f:Nat->Nat)(n:Int)(vn vt:Value):Prop:=∀ k,k<259->W.cell? ⟨g,k,none⟩=some (dfF f n vn vt k)
theorem DfB.of {W:World}{g:Nat}{t:TypeId}{f:Nat->Nat}{n:Int}{vn vt:Value}(h:BlkIs W g t (dfC f n vn vt)):DfB W g f n vn vt:=fun k hk=>by
 rw [h.cell k];exact xzsa _ _ _ _ hk
theorem DfB.step {W W':World}{g:Nat}{f:Nat->Nat}{n:Int}{vn vt:Value}(h:DfB W g f n vn vt)(hb:Below W.heap.size W W'):DfB W' g f n vn vt:=fun k hk=>by
 have hlt:g<W.heap.size:=World.block_lt_of_cell? W ⟨g,k,none⟩ (h k hk);exact(hb.cell (p:=⟨g,k,none⟩) hlt).trans (h k hk)
section
variable {W : World} {g : Nat} {f : Nat → Nat} {n : Int} {vn vt : Value}
theorem DfB.range (h:DfB W g f n vn vt):W.rangeAt g 0 (dfC f n vn vt).toList:=fun j v hv=>by
 have hj:j<259:=by have:=(List.getElem?_eq_some_iff.1 hv).1;rw [Array.length_toList,xzak]at this;exact this
 rw [Nat.zero_add,h j hj];rw [Array.getElem?_toList,xzsa _ _ _ _ hj]at hv;exact hv
theorem DfB.rangeC (h:DfB W g f n vn vt):W.rangeAt g 0 (clsC f n).toList:=fun j v hv=>by
 have hj:j<257:=by have:=(List.getElem?_eq_some_iff.1 hv).1;rw [Array.length_toList,xzaj]at this;exact this
 rw [Nat.zero_add,h j (by omega),<-hv,Array.getElem?_toList];unfold dfF
 by_cases h3:j<256
 ·rw [if_pos h3,xzro f n h3]
 ·have:j=256:=by omega
  subst this;rw [yzbq];rfl
theorem DfB.rangeO (h:DfB W g f n vn vt):W.rangeAt g 0 (ofC f).toList:=fun j v hv=>by
 have hj:j<256:=by have:=(List.getElem?_eq_some_iff.1 hv).1;rw [Array.length_toList,xzoy]at this;exact this
 rw [Nat.zero_add,h j (by omega),<-hv,Array.getElem?_toList];unfold dfF;rw [if_pos hj,xzxf f hj]
theorem DfB.cells (h:DfB W g f n vn vt):W.cell? ⟨g,256,none⟩=some (.int .i64 n)/\W.cell? ⟨g,257,none⟩=some vn/\W.cell? ⟨g,258,none⟩=some vt:=⟨h 256 (by decide),h 257 (by decide),h 258 (by decide)⟩
theorem DfB.ofAt (h:DfB W g f n vn vt){b:Nat}(hb:b<256):W.cell? ⟨g,b,none⟩=some (.int .u8 (f b)):=by
 rw [h b (by omega)];unfold dfF;rw [if_pos hb]
end
theorem infoD:(Tryz.prog.info? 38).map (·.size)=some 259:=by kernel_rfl
section
variable {ops : Array Oper} {rest : List Oper} {op : Oper} {a : Act} {w : World} {Q : Exit → Act → World → Prop} {g : Nat} {f : Nat → Nat} {n : Int} {vn vt : Value}
theorem xzej (hgd:op.guard=none)(x:Operand)(ho:op.op=.load 38 x)(hx:a.eval x=.pointer (some ⟨g,0,none⟩))(h:DfB w g f n vn vt)
 (hK:wpList Tryz.prog ops Q rest (a.put op.dst (.agg (dfC f n vn vt))) w):wpList Tryz.prog ops Q (op::rest) a w:=
 wpList_load_mid hgd 38 x ho g 0 hx (dfC f n vn vt).toList _ h.range Tryz.underlying38 rfl (by rw [infoD,Array.length_toList,xzak]) (by rw [Array.toArray_toList];exact hK)
theorem loadDf (h:DfB w g f n vn vt):(Instr.loadAt 38 (.pointer (some ⟨g,0,none⟩))).run Tryz.prog w=.ok (.agg (dfC f n vn vt)) w:=by
 have:=run_loadAt_mid (P:=Tryz.prog) w g 0 38 (dfC f n vn vt).toList _ h.range Tryz.underlying38 rfl (by rw [infoD,Array.length_toList,xzak]);rw [this]
theorem loadVarDf (h:DfB w g f n vn vt):(loadVar 38 ⟨g,0,none⟩).run Tryz.prog w=.ok (.agg (dfC f n vn vt)) w:=by
 have:=run_loadVar_mid (P:=Tryz.prog) w g 0 38 (dfC f n vn vt).toList _ h.range Tryz.underlying38 rfl (by rw [infoD,Array.length_toList,xzak])
 rwa [Array.toArray_toList]at this
theorem loadDc (h:DfB w g f n vn vt):(Instr.loadAt 36 (.pointer (some ⟨g,0,none⟩))).run Tryz.prog w=.ok (.agg (clsC f n)) w:=by
 have:=run_loadAt_mid (P:=Tryz.prog) w g 0 36 (clsC f n).toList _ h.rangeC Tryz.underlying36 rfl (by rw [infoC,Array.length_toList,xzaj]);rw [this]
end
def df0:Array Value:=dfC (fun _=>0) 0 (.slice none 0 0) (.slice none 0 0)
theorem zeroDf (w:World):(zeroValue 38).run Tryz.prog w=.ok (.agg df0) w:=
 (zero_of_info (P:=Tryz.prog) (t:=38) (v:=.agg df0) (n:=259) (by kernel_rfl)).1 w
theorem yzcr:Tryz.prog.built 38 []=some df0:=by kernel_rfl
def DfAt (W:World)(D:Df)(v:Value):Prop:=∃ vn vt,v=.agg (dfC D.of D.n vn vt)/\RowsI W D.next vn/\IntsV W D.tag vt
theorem DfAt.step {W W':World}{D:Df}{v:Value}(h:DfAt W D v)(hb:Below W.heap.size W W'):DfAt W' D v:=by
 obtain⟨vn,vt,e,h1,h2⟩:=h;exact⟨vn,vt,e,h1.step hb,h2.step hb⟩
end
end Go.Proofs.YtgbljnnmhmlifaaGreatDoor
