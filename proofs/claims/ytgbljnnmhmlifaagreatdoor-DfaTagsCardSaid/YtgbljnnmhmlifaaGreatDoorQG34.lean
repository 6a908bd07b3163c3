/-
 WHAT tag OF THE MAKER OF SUBSETS ANSWERS: a contract. Condition: the automaton with choices may be.
-/
import Derived.Test.YtgbljnnmhmlifaaGreatDoorQG33
namespace Go.Proofs.YtgbljnnmhmlifaaGreatDoor
section
open Go.RowKit
def tagTo (N:Nf)(f:Nat->Bool):Nat->Int
 |0=> -1
 |k+1=>if f k then tagStep N (tagTo N f k) (k:Int)else tagTo N f k
theorem xzfu (N:Nf)(f:Nat->Bool):∀ n,tagL N (((List.range n).filter f).map fun(q:Nat)=>(q:Int))=tagTo N f n
 |0=>rfl
 |n+1=>by
  rw [List.range_succ,List.filter_append,List.map_append]
  cases h:f n
  ·rw [show [n].filter f=[]by simp [h],List.map_nil,List.append_nil,xzfu N f n]
   simp [tagTo,h]
  ·rw [show [n].filter f=[n]by simp [h],List.map_cons,List.map_nil,xzuw,xzfu N f n]
   simp [tagTo,h]
theorem xzrw (N:Nf)(hR:∀ q,0<=N.ruleAt q/\N.ruleAt q<40)(f:Nat->Bool):∀ n,tagTo N f n= -1\/0<=tagTo N f n
 |0=>.inl rfl
 |n+1=>by
  unfold tagTo tagStep;have:=xzrw N hR f n
  split
  ·split
   ·exact .inr (hR _).1
   ·exact this
  ·exact this
theorem SMx.ints {p:SP}{r:Nat->Prop}{ρ:Nat->Nat}{D:SD}{V:MkV}{bs:Nat->Nat}{W:World}(h:SMx r p ρ D V bs W):IntsV W p.N.rules V.v1/\IntsV W p.N.first V.v2/\BoolsV W p.N.ends V.v4/\SetsV W p.N.sets V.v0:=by
 obtain⟨v0,v1,v2,v3,v4,e,h0,h1,h2,_,h4⟩:=h.nfa
 injection e with e
 injection e with e
 simp only [List.cons.injEq]at e;obtain⟨rfl,rfl,rfl,rfl,rfl,_⟩:=e
 have hb:Below p.W0.heap.size p.W0 W:=by rw [h.low.1];exact h.below
 exact⟨h1.step hb,h2.step hb,h4.step hb,h0.step hb⟩
theorem tag_yes (N:Nf)(f:Nat->Bool)(k:Nat)(h1:N.endAt (k:Int)=true)(h2:f k=true)(h3:tagTo N f k<0\/N.ruleAt (k:Int)<tagTo N f k):tagTo N f (k+1)=N.ruleAt (k:Int):=by
 simp only [tagTo,h2,if_true,tagStep,h1,Bool.true_and];rw [if_pos (by simpa using h3)]
theorem tag_no (N:Nf)(f:Nat->Bool)(k:Nat)(h:N.endAt (k:Int)=false\/f k=false\/(0<=tagTo N f k/\tagTo N f k<=N.ruleAt (k:Int))):tagTo N f (k+1)=tagTo N f k:=by
 rcases h with h|h|h
 ·simp only [tagTo,tagStep,h,Bool.false_and];split<;>simp
 ·simp [tagTo,h]
 ·simp only [tagTo,tagStep]
  split
  ·rw [if_neg (by simp;intro _;omega)]
  ·rfl
set_option maxRecDepth 20000 in
set_option maxHeartbeats 8000000 in
theorem yzch (p:SP)(ρ:Nat->Nat)(D:SD)(V:MkV)(bs:Nat->Nat)(w:World)(h:SM p ρ D V bs w)(hmi:MayIs p.N)(f:Nat->Bool):
 Calls Tryz.prog 80 #[.pointer (some ⟨p.g,0,none⟩),.agg (rowA f)] w fun e w'=>e=.returned (.int .i64 (tagTo p.N f p.N.rules.length))/\Below w.heap.size w w':=by
 obtain⟨W1,hW1⟩:∃ W1,(w.alloc (.cells (rowA f) 65))=W1:=⟨_,rfl⟩
 have hb1:Below w.heap.size w W1:=by rw [<-hW1];exact(Below.refl _ _).alloc (Nat.le_refl _) _
 have hx1:RowAt W1 w.heap.size 0 f:=by rw [<-hW1];exact BlkF.row (newF w _ _) (xzbo _)
 obtain⟨hi1,_,hi4,_⟩:=h.ints;obtain⟨A1,c1,e1,hc1,hg1⟩:=hi1;obtain⟨A4,c4,e4,hc4,hg4⟩:=hi4;have HC:=zd (fun(u:World) (hu:Below w.heap.size w u)=>(h.step hu).cells);rw [e1,e4]at HC;have HG1:=zd hg1;have HG4:=zd hg4;have HB:=zd (And.intro hb1 hx1);have HLE:=zd (show p.N.ends.length=p.N.rules.length/\p.N.rules.length<=2000 from⟨by rw [hmi.ends,hmi.rules],by rw [hmi.rules];exact hmi.small⟩);have HLO:=zd (xzrw p.N hmi.ruleAt f);have HRU:=zd (fun k=>(hmi.ruleAt (k:Int)));obtain⟨_,_,_,_,b260,_,_,b263,_⟩:=HC.out W1 hb1;clear h hmi hb1 hx1 hg1 hg4
 go_enter Tryz.func80,Tryz.ntmps80
 go_wp2
 go_loopw [5,6,7,14] (fun le _ _ i wr=>∃ k:Nat,i=.int .i64 k/\k<=p.N.rules.length/\le=.int .i64 (tagTo p.N f k)/\Hid (Below w.heap.size w wr/\RowAt wr w.heap.size 0 f)) (fun _ _ _ i _=>p.N.rules.length - (intOf i).toNat)
 case atStart=>exact⟨0,rfl,Nat.zero_le _,rfl,HB⟩
 case round=>
  obtain⟨k,rfl,hk,rfl,HH⟩:=hrel;clear b260 b263
  by_cases hp:k<p.N.rules.length
  ·have hk1:IntKind.i64.wrap ((k:Int)+1)=((k+1:Nat):Int):=by rw [IntKind.wrap_i64];omega
   have hdl:decide ((k:Int)<(p.N.rules.length:Int))=true:=by simp;omega
   obtain⟨_,_,_,_,b260,_,_,b263,_⟩:=HC.out wr HH.out.1;obtain⟨b,o,rfl,hlt,hg⟩:=HG1.out (by intro e;rw [e]at hp;simp at hp);obtain⟨b2,o2,rfl,hlt2,hg2⟩:=HG4.out (by intro e;have:=HLE.out.1;rw [e]at this;simp at this;omega)
   have hke:k<p.N.ends.length:=by have:=HLE.out.1;omega
   have hcr:=(HH.out.1.cell (p:=⟨b,o+k,none⟩) hlt).trans (hg k hp);have hce:=(HH.out.1.cell (p:=⟨b2,o2+k,none⟩) hlt2).trans (hg2 k hke)
   have er:p.N.rules[k]=p.N.ruleAt (k:Int):=by unfold Nf.ruleAt;simp [hp]
   have ee:p.N.ends[k]=p.N.endAt (k:Int):=by unfold Nf.endAt;simp [hke]
   rw [er]at hcr;rw [ee]at hce
   have hle:(k:Int)<(p.N.ends.length:Int):=by omega
   have HHAS:=zd (xzil w.heap.size 0 f k wr HH.out.2 (by have:=HLE.out.2;omega));have hlow:=HLO.out k;have hru:=HRU.out k;have hyes:=tag_yes p.N f k;have hno:=tag_no p.N f k;clear hg hg2 er ee;generalize p.N.ruleAt (k:Int)=rk at*;generalize p.N.endAt (k:Int)=ek at*;generalize tagTo p.N f k=lk at*
   cases hek:ek with
   |false=>
    have hln:=zd (hno (.inl hek));subst hek;clear hyes hno;go_wp2;exact⟨⟨k+1,rfl,hp,by rw [hln.out],HH⟩,by simp [intOf];omega⟩
   |true=>
    cases hfk:f k with
    |false=>
     have hln:=zd (hno (.inr (.inl hfk)));rw [hfk]at HHAS;subst hek;clear hyes hno hfk
     go_wp2_with fail
     go_at_call 77
     refine HHAS.out.mono ?_;rintro e u ⟨rfl,rfl⟩;go_wp2;exact⟨⟨k+1,rfl,hp,by rw [hln.out],HH⟩,by simp [intOf];omega⟩
    |true=>
     rw [hfk]at HHAS
     by_cases hz:lk= -1
     ·have hln:=zd (hyes hek hfk (.inl (by omega)))
      subst hek hz;clear hyes hno hfk
      go_wp2_with fail
      go_at_call 77
      refine HHAS.out.mono ?_;rintro e u ⟨rfl,rfl⟩;go_wp2;exact⟨⟨k+1,rfl,hp,by rw [hln.out],HH⟩,by simp [intOf];omega⟩
     ·have hz1:(lk== -1)=false:=by simpa using hz
      have hz2:decide (lk= -1)=false:=decide_eq_false hz
      by_cases hlt3:rk<lk
      ·have hln:=zd (hyes hek hfk (.inr hlt3))
       have hz3:decide (rk<lk)=true:=decide_eq_true hlt3;subst hek;clear hyes hno hfk hz
       go_wp2_with fail
       go_at_call 77
       refine HHAS.out.mono ?_;rintro e u ⟨rfl,rfl⟩;go_wp2;exact⟨⟨k+1,rfl,hp,by rw [hln.out],HH⟩,by simp [intOf];omega⟩
      ·have hln:=zd (hno (.inr (.inr ⟨by omega,by omega⟩)))
       have hz3:decide (rk<lk)=false:=decide_eq_false hlt3;subst hek;clear hyes hno hfk hz
       go_wp2_with fail
       go_at_call 77
       refine HHAS.out.mono ?_;rintro e u ⟨rfl,rfl⟩;go_wp2;exact⟨⟨k+1,rfl,hp,by rw [hln.out],HH⟩,by simp [intOf];omega⟩
  ·have hdl:decide ((k:Int)<(p.N.rules.length:Int))=false:=by simp;omega
   obtain rfl:k=p.N.rules.length:=by omega
   go_wp2;go_ret;exact⟨rfl,HH.out.1⟩
end
section
open Go.RowKit
theorem putR (V:MkV)(W':World)(g:Nat)(q:Nat)(hq:q<2048)(h:BlkF W' g 67 301 (putV (mkF V) (269+q / 64) (rowP (plus V.reach q) (q / 64)))):BlkF W' g 67 301 (mkF {V with reach:=plus V.reach q}):=by
 rw [yzbu V q hq]at h;exact h
theorem mkF_low (V:MkV)(f:Nat->Bool){i:Nat}(h2:i<269):mkF {V with reach:=f} i=mkF V i:=by
 have:i<256\/i=256\/i=257\/i=258\/i=259\/i=260\/i=261\/i=262\/i=263\/i=264\/i=265\/i=266\/i=267\/i=268:=by omega
 rcases this with h|rfl|rfl|rfl|rfl|rfl|rfl|rfl|rfl|rfl|rfl|rfl|rfl|rfl
 ·unfold mkF;simp only [if_pos h]
 all_goals rfl
theorem joinR (V:MkV)(f:Nat->Bool)(W:World)(g:Nat)(h:BlkF W g 67 301 (joinF (mkF V) 269 (sOr V.reach f) 32)):BlkF W g 67 301 (mkF {V with reach:=sOr V.reach f}):=by
 have e:cellsN 301 (joinF (mkF V) 269 (sOr V.reach f) 32)=cellsN 301 (mkF {V with reach:=sOr V.reach f}):=xzao fun i hi=>by
  unfold joinF
  by_cases h2:269<=i
  ·rw [if_pos (by omega)]
   unfold mkF
   repeat rw [if_neg (by omega)]
  ·rw [if_neg (by omega)]
   have:i<256\/i=256\/i=257\/i=258\/i=259\/i=260\/i=261\/i=262\/i=263\/i=264\/i=265\/i=266\/i=267\/i=268:=by omega
   rcases this with h|rfl|rfl|rfl|rfl|rfl|rfl|rfl|rfl|rfl|rfl|rfl|rfl|rfl
   ·unfold mkF;simp only [if_pos h]
   all_goals rfl
 unfold BlkF at h ⊢;rw [<-e];exact h
theorem joinR2 (V:MkV)(r f:Nat->Bool)(W:World)(g:Nat)(h:BlkF W g 67 301 (joinF (mkF {V with reach:=r}) 269 (sOr r f) 32)):BlkF W g 67 301 (mkF {V with reach:=sOr r f}):=joinR {V with reach:=r} f W g h
theorem putR2 (V:MkV)(r:Nat->Bool)(W':World)(g:Nat)(q:Nat)(hq:q<2048)(h:BlkF W' g 67 301 (putV (mkF {V with reach:=r}) (269+q / 64) (rowP (plus r q) (q / 64)))):BlkF W' g 67 301 (mkF {V with reach:=plus r q}):=putR {V with reach:=r} W' g q hq h
theorem rowJoinM (V:MkV)(r f2:Nat->Bool)(g g2 o2:Nat)(w:World)(hb:BlkF w g 67 301 (mkF {V with reach:=r}))(h2:RowAt w g2 o2 f2):
 Calls Tryz.prog 78 #[.pointer (some ⟨g,269,none⟩),.pointer (some ⟨g2,o2,none⟩)] w fun e w'=>e=.returned (.tuple #[])/\BlkF w' g 67 301 (mkF {V with reach:=sOr r f2})/\Wrote g w w':=
 (xztu g 269 301 67 _ r f2 g2 o2 w hb (yzgo {V with reach:=r}) h2).mono fun _ _ h=>⟨h.1,joinR2 V r f2 _ g h.2.1,h.2.2⟩
def behindTo (fol:List (Nat->Bool))(f r:Nat->Bool):Nat->Nat->Bool
 |0=>r
 |n+1=>if f n then sOr (behindTo fol f r n) (fol.getD n fun _=>false)else behindTo fol f r n
def firstTo (N:Nf):Nat->Nat->Bool
 |0=>fun _=>false
 |n+1=>plus (firstTo N n) (N.first.getD n 0).toNat
theorem xzty {P:Program}{op:Oper}{a:Act}{w:World}{K:Act->World->Prop}{Q:Exit->Act->World->Prop}(s:Operand)(t:TypeId)(hop:op.op=Op.call {callee:=Callee.builtin Builtin.clear,args:=#[s],argTypes:=#[t]}){v v':Value}{w':World}(hs:a.eval s=v)
 (hrun:(Builtin.clear_ #[t] op.type #[v]).run P w=.ok v' w')(h:K (a.put op.dst v') w'):op.wp P a w K Q:=by
 unfold Oper.wp execOp;simp only [hop,resolve,invoke,builtin,Sem.run_bind,Sem.run_pure,Result.andThen_ok,List.map_toArray,List.map_cons,List.map_nil,hs,hrun];exact h
section
variable {P : Program} {op : Oper} {ops : Array Oper} {rest : List Oper} {a : Act} {w : World} {Q : Exit → Act → World → Prop}
theorem xzgt (hg:op.guard=none)(s:Operand)(t:TypeId)(hop:op.op=Op.call {callee:=Callee.builtin Builtin.clear,args:=#[s],argTypes:=#[t]}){v v':Value}{w':World}(hs:a.eval s=v)
 (hrun:(Builtin.clear_ #[t] op.type #[v]).run P w=.ok v' w')(h:wpList P ops Q rest (a.put op.dst v') w'):wpList P ops Q (op::rest) a w:=
 wpList_plain hg fun _ hK=>xzty s t hop hs hrun (hK _ _ h)
end
theorem BlkF.puts {g:Nat}{t:TypeId}{N:Nat}{z:Value}:∀ (n o:Nat) (W:World) (F:Nat->Value),BlkF W g t N F->BlkF (W.setCells g o (List.replicate n z)) g t N (fun i=>if o<=i/\i<o+n then z else F i)
 |0,o,W,F,h=>by
  have e:(fun i=>if o<=i/\i<o+0 then z else F i)=F:=by funext i;rw [if_neg (by omega)]
  rw [e];exact h
 |n+1,o,W,F,h=>by
  rw [List.replicate_succ,World.setCells];have:=BlkF.puts (z:=z) n (o+1) _ _ (h.put o z)
  have e:(fun i=>if o+1<=i/\i<o+1+n then z else putV F o z i)=(fun i=>if o<=i/\i<o+(n+1)then z else F i):=by
   funext i;unfold putV
   by_cases h1:i=o
   ·subst h1;rw [if_neg (by omega),if_pos rfl,if_pos (by omega)]
   ·by_cases h2:o+1<=i/\i<o+1+n
    ·rw [if_pos h2,if_pos (by omega)]
    ·rw [if_neg h2,if_neg h1,if_neg (by omega)]
  rw [e]at this;exact this
theorem xzxv:Builtin.zeroCells #[Value.int .u64 0] 32=(List.replicate 32 (Value.int .u64 0)).toArray:=by kernel_rfl
theorem xzxw {W:World}{g:Nat}{t:TypeId}{F:Nat->Value}(h:BlkF W g t 301 F)(ty:TypeId):
 (Builtin.clear_ #[118] ty #[.slice (some ⟨g,269,none⟩) 32 32]).run Tryz.prog W=.ok (.tuple #[]) (W.setCells g 269 (List.replicate 32 (.int .u64 0))):=by
 have hz:∀ w:World,(zeroValue 45).run Tryz.prog w=.ok (.int .u64 0) w:=fun w=>by kernel_rfl
 have hst:=run_storeCells_cells (P:=Tryz.prog) g 269 (List.replicate 32 (Value.int .u64 0)) 0 W (fun j hj=>by
  rw [List.length_replicate]at hj
  rw [h.cell (by omega)];rfl) (fun j hj=>BlkIs.frozen h _) (fun v hv=>by rw [(List.mem_replicate.1 hv).2];rfl)
 unfold Builtin.clear_;simp only [zq,Sem.run_bind,run_underlying Tryz.underlying118,Result.andThen_ok,hz,Sem.run_pure]
 have e:(Builtin.zeroCells (Value.int .u64 0).cells 32).toList=List.replicate 32 (Value.int .u64 0):=by
  show(Builtin.zeroCells #[Value.int .u64 0] 32).toList=_
  rw [xzxv]
 rw [e,hst]
 rfl
theorem clearR (V:MkV)(W:World)(g:Nat)(h:BlkF W g 67 301 (mkF V)):BlkF (W.setCells g 269 (List.replicate 32 (.int .u64 0))) g 67 301 (mkF {V with reach:=fun _=>false}):=by
 have h1:=BlkF.puts (z:=.int .u64 0) 32 269 W (mkF V) h
 have e:cellsN 301 (fun i=>if 269<=i/\i<269+32 then Value.int .u64 0 else mkF V i)=cellsN 301 (mkF {V with reach:=fun _=>false}):=xzao fun i hi=>by
  by_cases h2:269<=i
  ·rw [if_pos (by omega)]
   unfold mkF
   repeat rw [if_neg (by omega)]
   show Value.int .u64 0=Value.int .u64 ((wd (fun _=>false) (i - 269):Nat):Int)
   rw [wd_noP];rfl
  ·rw [if_neg (by omega)];exact(mkF_low V (fun _=>false) (by omega)).symm
 unfold BlkF at h1 ⊢;rw [<-e];exact h1
set_option maxRecDepth 20000 in
set_option maxHeartbeats 16000000 in
theorem xzxx (p:SP)(ρ:Nat->Nat)(D:SD)(V:MkV)(bs:Nat->Nat)(w:World)(h:SM p ρ D V bs w)(hmi:MayIs p.N)(at':Nat)(hat:at'<D.L.length)(hfl:D.fol.length<=2000):
 Calls Tryz.prog 45 #[.pointer (some ⟨p.g,0,none⟩),.int .i64 at'] w fun e w'=>e=.returned (.tuple #[])/\BlkF w' p.g 67 301 (mkF {V with reach:=behindTo D.fol (setOf (D.L.getD at' [])) (if at'=0 then firstTo p.N p.N.first.length else fun _=>false) D.fol.length})/\Wrote p.g w w':=by
 have F: ¬ False:=fun h=>h
 have hb:=h.blk F;have hcl:=xzxw hb 118;have hz:=clearR V w p.g hb;have hw0:Wrote p.g w (w.setCells p.g 269 (List.replicate 32 (.int .u64 0))):=Wrote.cells _ _ _ _;obtain⟨W1,hW1⟩:∃ W1,w.setCells p.g 269 (List.replicate 32 (.int .u64 0))=W1:=⟨_,rfl⟩;rw [hW1]at hcl hz hw0;obtain⟨_,hi2,_,_⟩:=h.ints;obtain⟨A2,c2,e2,hc2,hg2⟩:=hi2
 have hst:=(h.st F).at at' (by simpa using hat);obtain⟨sb,sc,es,eso,hsl,hsr⟩:=hst;rw [List.length_map]at es
 have esx:(D.L.map setOf)[at']'(by simpa using hat)=setOf (D.L.getD at' []):=by
  rw [List.getElem_map,List.getD_eq_getElem?_getD,List.getElem?_eq_getElem hat];rfl
 rw [esx]at hsr
 have hsg:sb≠p.g:=fun e=>by have:=h.ro.2.2.2.2.1 sb eso;rw [e,h.ro.1]at this;cases this
 have HST:=zd (fun(u:World) (hu:Wrote p.g w u)=>hsr.heap (hu.1 sb hsg))
 have HFO:=zd (fun(k:Nat) (hk:k<D.fol.length)=>(show ∃ b c,V.fol=.slice (some ⟨b,0,none⟩) D.fol.length c/\b≠p.g/\∀ u:World,Wrote p.g w u->RowAt u b (k*32) (D.fol.getD k fun _=>false)by
  obtain⟨b,c,e1,e2,e3,e4⟩:=(h.fo F).at k hk
  have hne:b≠p.g:=fun e=>by have:=h.ro.2.2.1 b e2;rw [e,h.ro.1]at this;cases this
  refine⟨b,c,e1,hne,fun u hu=>?_⟩;rw [List.getD_eq_getElem?_getD,List.getElem?_eq_getElem hk]
  exact e4.heap (hu.1 b hne)))
 obtain⟨Af,cf,ef,hcf⟩:=(h.fo F).form
 have hB:p.W0.heap.size<=p.g:=by rw [h.low.1];exact h.low.2.1
 have HFI:=zd (fun(k:Nat) (hk:k<p.N.first.length)=>(show ∃ b o,A2=some ⟨b,o,none⟩/\∃ q:Nat,q<2048/\p.N.first.getD k 0=(q:Int)/\∀ u:World,Wrote p.g w u->u.cell? ⟨b,o+k,none⟩=some (.int .i64 (q:Nat))by
  obtain⟨v0,v1,v2,v3,v4,e,_,_,hn2,_,_⟩:=h.nfa
  injection e with e
  injection e with e
  simp only [List.cons.injEq]at e;obtain⟨_,_,rfl,_,_,_⟩:=e;obtain⟨A,c,e5,_,hs⟩:=hn2;rw [e2]at e5
  cases e5
  obtain⟨b,o,e1,l1,g1⟩:=hs (by intro e;rw [e]at hk;simp at hk);have hq:=(hmi.firsts.1 _ (List.getElem_mem hk));obtain⟨q,hqe⟩:=Int.eq_ofNat_of_zero_le hq.1;refine⟨b,o,e1,q,by have:=hmi.small;omega,by rw [List.getD_eq_getElem?_getD,List.getElem?_eq_getElem hk];exact hqe,fun u hu=>?_⟩
  have hbg:b≠p.g:=by omega
  have hbw:Below p.W0.heap.size p.W0 w:=by rw [h.low.1];exact h.below
  rw [xzby (hu.1 b hbg),hbw.cell (p:=⟨b,o+k,none⟩) l1,g1 k hk,hqe]))
 have HZ:=zd (And.intro hz hw0);have c2x:=(xzap hz).2.2.2.2.2.1;have hcz:=(xzap hb);rw [e2]at c2x;have HLF:=zd hfl;have HE:=zd (And.intro ef (And.intro es e2));obtain⟨f,hf⟩:∃ f,f=setOf (D.L.getD at' []):=⟨_,rfl⟩;rw [<-hf]at HST ⊢;clear h hb hz hw0 hsr esx hf hg2 hcz
 by_cases h0:at'=0
 ·rw [if_pos h0]
  subst h0
  go_enter Tryz.func45,Tryz.ntmps45
  go_wp2_with(refine xzgt rfl _ 118 rfl rfl hcl ?_)
  go_loopw [5,20] (fun _ i wr=>∃ k:Nat,i=.int .i64 k/\k<=p.N.first.length/\Hid (BlkF wr p.g 67 301 (mkF {V with reach:=firstTo p.N k})/\Wrote p.g w wr)) (fun _ i _=>p.N.first.length - (intOf i).toNat)
  case atStart=>exact⟨0,rfl,Nat.zero_le _,HZ⟩
  case round=>
   obtain⟨k,rfl,hk,HH⟩:=hrel
   by_cases hp:k<p.N.first.length
   ·have hk1:IntKind.i64.wrap ((k:Int)+1)=((k+1:Nat):Int):=by rw [IntKind.wrap_i64];omega
    have hdl:decide ((k:Int)<(p.N.first.length:Int))=true:=by simp;omega
    obtain⟨b,o,rfl,q,hq,hqe,hqc⟩:=HFI.out k hp;have hcq:=hqc wr HH.out.2;have HA:=zd (xzik p.g 269 301 67 _ (firstTo p.N k) q wr HH.out.1 (yzgo _) hq);have HQ:=zd (And.intro hq (show firstTo p.N (k+1)=plus (firstTo p.N k) q by simp only [firstTo,hqe];rfl));clear hqe hqc hq
    go_wp2_with fail
    go_at_call 73
    refine HA.out.mono ?_;rintro e u ⟨rfl,hb,hw⟩;have hb:=putR2 V (firstTo p.N k) u p.g q HQ.out.1 hb;have HN:=zd (show BlkF u p.g 67 301 (mkF {V with reach:=firstTo p.N (k+1)})/\Wrote p.g w u from⟨by rw [HQ.out.2];exact hb,HH.out.2.trans hw⟩);clear hb hw;go_wp2;exact⟨⟨k+1,rfl,hp,HN⟩,by simp [intOf];omega⟩
   ·have hdl:decide ((k:Int)<(p.N.first.length:Int))=false:=by simp;omega
    obtain rfl:k=p.N.first.length:=by omega
    have c5x:=(xzap HH.out.1).2.2.2.2.2.2.2.2.2.1;rw [HE.out.1]at c5x;go_wp2
    go_loopw [6,35] (fun _ i wr=>∃ k:Nat,i=.int .i64 k/\k<=D.fol.length/\Hid (BlkF wr p.g 67 301 (mkF {V with reach:=behindTo D.fol f (firstTo p.N p.N.first.length) k})/\Wrote p.g w wr)) (fun _ i _=>D.fol.length - (intOf i).toNat)
    case atStart=>exact⟨0,rfl,Nat.zero_le _,HH⟩
    case round=>
     obtain⟨k,rfl,hk,HH⟩:=hrel;clear c5x c2x
     by_cases hp:k<D.fol.length
     ·have hk1:IntKind.i64.wrap ((k:Int)+1)=((k+1:Nat):Int):=by rw [IntKind.wrap_i64];have:=HLF.out;omega
      have hdl:decide ((k:Int)<(D.fol.length:Int))=true:=by simp;omega
      have c7x:=(xzap HH.out.1).2.2.2.2.2.2.2.2.2.2.2.1;rw [HE.out.2.1]at c7x
      have hil:(0:Int)<(D.L.length:Int):=by omega
      have HHAS:=zd (xzil sb 0 f k wr (by have:=HST.out wr HH.out.2;rwa [Nat.zero_mul]at this) (by have:=HLF.out;omega))
      cases hfk:f k with
      |false=>
       rw [hfk]at HHAS;have HN:=zd (show BlkF wr p.g 67 301 (mkF {V with reach:=behindTo D.fol f (firstTo p.N p.N.first.length) (k+1)})/\Wrote p.g w wr from⟨by simp only [behindTo,hfk];exact HH.out.1,HH.out.2⟩);clear hfk
       go_wp2_with fail
       go_at_call 77
       refine HHAS.out.mono ?_;rintro e u ⟨rfl,rfl⟩;go_wp2;exact⟨⟨k+1,rfl,hp,HN⟩,by simp [intOf];omega⟩
      |true=>
       rw [hfk]at HHAS;obtain⟨fb,fc,hfe,hfg,hfr⟩:=HFO.out k hp;have HE2:=zd hfe;have HRF:=zd hfr
       have hil2:(k:Int)<(D.fol.length:Int):=by omega
       have HBS:=zd (show behindTo D.fol f (firstTo p.N p.N.first.length) (k+1)=sOr (behindTo D.fol f (firstTo p.N p.N.first.length) k) (D.fol.getD k fun _=>false)by simp only [behindTo,hfk];rfl);clear hfk hfe hfr
       go_wp2_with fail
       go_at_call 77
       refine HHAS.out.mono ?_;rintro e u ⟨rfl,rfl⟩;clear c7x
       go_wp2_with fail
       refine wp_region_held_drew (S:=fun u'=>u'.cell? ⟨p.g,265,none⟩=some (.slice (some ⟨fb,0,none⟩) D.fol.length fc)) (by kernel_rfl) (by rw [<-HE2.out];exact(xzap HH.out.1).2.2.2.2.2.2.2.2.2.1) ?_;intro hS0;refine wpAnyH_take (i:=0) (v:=.pointer (some ⟨p.g,0,none⟩)) rfl (by kernel_rfl) (by kernel_rfl) (by kernel_rfl) (fun _ _ _ h=>h) (.inl ⟨rfl,fun u hu=>by go_simp⟩) hS0 ?_;refine wpAnyH_take (i:=1) (v:=.pointer (some ⟨p.g,0,none⟩)) rfl (by kernel_rfl) (by kernel_rfl) (by kernel_rfl) (fun _ _ _ h=>h) (.inl ⟨rfl,fun u hu=>by go_simp⟩) hS0 ?_;refine wpAnyH_take (i:=2) (v:=.pointer (some ⟨p.g,269,none⟩)) rfl (by kernel_rfl) (by kernel_rfl) (by kernel_rfl) (fun _ _ _ h=>h) (.inl ⟨rfl,fun u hu=>by go_simp⟩) hS0 ?_;refine wpAnyH_take (i:=3) (v:=.pointer (some ⟨p.g,0,none⟩)) rfl (by kernel_rfl) (by kernel_rfl) (by kernel_rfl) (fun _ _ _ h=>h) (.inl ⟨rfl,fun u hu=>by go_simp⟩) hS0 ?_;refine wpAnyH_take (i:=4) (v:=.pointer (some ⟨p.g,0,none⟩)) rfl (by kernel_rfl) (by kernel_rfl) (by kernel_rfl) (fun _ _ _ h=>h) (.inl ⟨rfl,fun u hu=>by go_simp⟩) hS0 ?_;refine wpAnyH_take (i:=5) (v:=.pointer (some ⟨p.g,265,none⟩)) rfl (by kernel_rfl) (by kernel_rfl) (by kernel_rfl) (fun _ _ _ h=>h) (.inl ⟨rfl,fun u hu=>by go_simp⟩) hS0 ?_;refine wpAnyH_take (i:=6) (v:=.slice (some ⟨fb,0,none⟩) D.fol.length fc) rfl (by kernel_rfl) (by kernel_rfl) (by kernel_rfl) (fun _ _ _ h=>h) (.inl ⟨rfl,fun u hu=>by go_simp⟩) hS0 ?_
       refine wpAnyH_take (i:=7) (v:=.int .i64 (k:Int)) rfl (by kernel_rfl) (by kernel_rfl) (by kernel_rfl) (fun _ _ _ h=>h) (.inl ⟨rfl,fun u hu=>by go_simp⟩) hS0 ?_;refine wpAnyH_take (i:=8) (v:=.pointer (some ⟨fb,k*32,none⟩)) rfl (by kernel_rfl) (by kernel_rfl) (by kernel_rfl) (fun _ _ _ h=>h) (.inl ⟨rfl,fun u hu=>by go_simp⟩) hS0 ?_;refine wpAnyH_ready (rs:=[9]) (by kernel_rfl) (by simp) ?_;refine AllReadyH.cons rfl (fun K hK=>?_) AllReadyH.nil;go_simp
       go_at_call 78
       refine(rowJoinM V (behindTo D.fol f (firstTo p.N p.N.first.length) k) (D.fol.getD k fun _=>false) p.g fb (k*32) _ (show BlkF u.drew p.g 67 301 _ from HH.out.1) (HRF.out _ (Wrote.drew HH.out.2))).mono ?_;rintro e u9 ⟨rfl,hb9,hw9⟩;refine hK.out _ _ (by rw [<-HE2.out];exact(xzap hb9).2.2.2.2.2.2.2.2.2.1) (fun hS1=>?_);have HN:=zd (show BlkF u9 p.g 67 301 (mkF {V with reach:=behindTo D.fol f (firstTo p.N p.N.first.length) (k+1)})/\Wrote p.g w u9 from⟨by rw [HBS.out];exact hb9,(Wrote.drew HH.out.2).trans hw9⟩);clear hK K hS0 hb9 hw9;refine wpAnyH_done (by kernel_rfl) ?_ _;go_wp2;exact⟨⟨k+1,rfl,hp,HN⟩,by simp [intOf];omega⟩
     ·have hdl:decide ((k:Int)<(D.fol.length:Int))=false:=by simp;omega
      obtain rfl:k=D.fol.length:=by omega
      go_wp2
      go_end0
      exact⟨rfl,HH.out⟩
 ·rw [if_neg h0]
  have hz0:decide ((at':Int)=0)=false:=decide_eq_false (by omega)
  have hz1:((at':Int)==0)=false:=by simpa using h0
  go_enter Tryz.func45,Tryz.ntmps45
  have c5x:=(xzap HZ.out.1).2.2.2.2.2.2.2.2.2.1;rw [HE.out.1]at c5x
  go_wp2_with(refine xzgt rfl _ 118 rfl rfl hcl ?_)
  go_loopw [6,35] (fun _ i wr=>∃ k:Nat,i=.int .i64 k/\k<=D.fol.length/\Hid (BlkF wr p.g 67 301 (mkF {V with reach:=behindTo D.fol f (fun _=>false) k})/\Wrote p.g w wr)) (fun _ i _=>D.fol.length - (intOf i).toNat)
  case atStart=>exact⟨0,rfl,Nat.zero_le _,HZ⟩
  case round=>
   obtain⟨k,rfl,hk,HH⟩:=hrel;clear c5x c2x
   by_cases hp:k<D.fol.length
   ·have hk1:IntKind.i64.wrap ((k:Int)+1)=((k+1:Nat):Int):=by rw [IntKind.wrap_i64];have:=HLF.out;omega
    have hdl:decide ((k:Int)<(D.fol.length:Int))=true:=by simp;omega
    have c7x:=(xzap HH.out.1).2.2.2.2.2.2.2.2.2.2.2.1;rw [HE.out.2.1]at c7x
    have hil:(at':Int)<(D.L.length:Int):=by omega
    have HHAS:=zd (xzil sb (at'*32) f k wr (HST.out wr HH.out.2) (by have:=HLF.out;omega))
    cases hfk:f k with
    |false=>
     rw [hfk]at HHAS;have HN:=zd (show BlkF wr p.g 67 301 (mkF {V with reach:=behindTo D.fol f (fun _=>false) (k+1)})/\Wrote p.g w wr from⟨by simp only [behindTo,hfk];exact HH.out.1,HH.out.2⟩);clear hfk
     go_wp2_with fail
     go_at_call 77
     refine HHAS.out.mono ?_;rintro e u ⟨rfl,rfl⟩;go_wp2;exact⟨⟨k+1,rfl,hp,HN⟩,by simp [intOf];omega⟩
    |true=>
     rw [hfk]at HHAS;obtain⟨fb,fc,hfe,hfg,hfr⟩:=HFO.out k hp;have HE2:=zd hfe;have HRF:=zd hfr
     have hil2:(k:Int)<(D.fol.length:Int):=by omega
     have HBS:=zd (show behindTo D.fol f (fun _=>false) (k+1)=sOr (behindTo D.fol f (fun _=>false) k) (D.fol.getD k fun _=>false)by simp only [behindTo,hfk];rfl);clear hfk hfe hfr
     go_wp2_with fail
     go_at_call 77
     refine HHAS.out.mono ?_;rintro e u ⟨rfl,rfl⟩;clear c7x
     go_wp2_with fail
     refine wp_region_held_drew (S:=fun u'=>u'.cell? ⟨p.g,265,none⟩=some (.slice (some ⟨fb,0,none⟩) D.fol.length fc)) (by kernel_rfl) (by rw [<-HE2.out];exact(xzap HH.out.1).2.2.2.2.2.2.2.2.2.1) ?_;intro hS0;refine wpAnyH_take (i:=0) (v:=.pointer (some ⟨p.g,0,none⟩)) rfl (by kernel_rfl) (by kernel_rfl) (by kernel_rfl) (fun _ _ _ h=>h) (.inl ⟨rfl,fun u hu=>by go_simp⟩) hS0 ?_;refine wpAnyH_take (i:=1) (v:=.pointer (some ⟨p.g,0,none⟩)) rfl (by kernel_rfl) (by kernel_rfl) (by kernel_rfl) (fun _ _ _ h=>h) (.inl ⟨rfl,fun u hu=>by go_simp⟩) hS0 ?_;refine wpAnyH_take (i:=2) (v:=.pointer (some ⟨p.g,269,none⟩)) rfl (by kernel_rfl) (by kernel_rfl) (by kernel_rfl) (fun _ _ _ h=>h) (.inl ⟨rfl,fun u hu=>by go_simp⟩) hS0 ?_;refine wpAnyH_take (i:=3) (v:=.pointer (some ⟨p.g,0,none⟩)) rfl (by kernel_rfl) (by kernel_rfl) (by kernel_rfl) (fun _ _ _ h=>h) (.inl ⟨rfl,fun u hu=>by go_simp⟩) hS0 ?_;refine wpAnyH_take (i:=4) (v:=.pointer (some ⟨p.g,0,none⟩)) rfl (by kernel_rfl) (by kernel_rfl) (by kernel_rfl) (fun _ _ _ h=>h) (.inl ⟨rfl,fun u hu=>by go_simp⟩) hS0 ?_;refine wpAnyH_take (i:=5) (v:=.pointer (some ⟨p.g,265,none⟩)) rfl (by kernel_rfl) (by kernel_rfl) (by kernel_rfl) (fun _ _ _ h=>h) (.inl ⟨rfl,fun u hu=>by go_simp⟩) hS0 ?_;refine wpAnyH_take (i:=6) (v:=.slice (some ⟨fb,0,none⟩) D.fol.length fc) rfl (by kernel_rfl) (by kernel_rfl) (by kernel_rfl) (fun _ _ _ h=>h) (.inl ⟨rfl,fun u hu=>by go_simp⟩) hS0 ?_
     refine wpAnyH_take (i:=7) (v:=.int .i64 (k:Int)) rfl (by kernel_rfl) (by kernel_rfl) (by kernel_rfl) (fun _ _ _ h=>h) (.inl ⟨rfl,fun u hu=>by go_simp⟩) hS0 ?_;refine wpAnyH_take (i:=8) (v:=.pointer (some ⟨fb,k*32,none⟩)) rfl (by kernel_rfl) (by kernel_rfl) (by kernel_rfl) (fun _ _ _ h=>h) (.inl ⟨rfl,fun u hu=>by go_simp⟩) hS0 ?_;refine wpAnyH_ready (rs:=[9]) (by kernel_rfl) (by simp) ?_;refine AllReadyH.cons rfl (fun K hK=>?_) AllReadyH.nil;go_simp
     go_at_call 78
     refine(rowJoinM V (behindTo D.fol f (fun _=>false) k) (D.fol.getD k fun _=>false) p.g fb (k*32) _ (show BlkF u.drew p.g 67 301 _ from HH.out.1) (HRF.out _ (Wrote.drew HH.out.2))).mono ?_;rintro e u9 ⟨rfl,hb9,hw9⟩;refine hK.out _ _ (by rw [<-HE2.out];exact(xzap hb9).2.2.2.2.2.2.2.2.2.1) (fun hS1=>?_);have HN:=zd (show BlkF u9 p.g 67 301 (mkF {V with reach:=behindTo D.fol f (fun _=>false) (k+1)})/\Wrote p.g w u9 from⟨by rw [HBS.out];exact hb9,(Wrote.drew HH.out.2).trans hw9⟩);clear hK K hS0 hb9 hw9;refine wpAnyH_done (by kernel_rfl) ?_ _;go_wp2;exact⟨⟨k+1,rfl,hp,HN⟩,by simp [intOf];omega⟩
   ·have hdl:decide ((k:Int)<(D.fol.length:Int))=false:=by simp;omega
    obtain rfl:k=D.fol.length:=by omega
    go_wp2
    go_end0
    exact⟨rfl,HH.out⟩
end
section
open Go.RowKit
attribute [local irreducible] FreeW textFrame
theorem xzpd:Maps.Keyed Tryz.prog 9:=Maps.string_keyed Tryz.underlying9
theorem yzef (s:ByteArray)(h:s.size<=maxLen):keyOf Tryz.prog 9 (.string s)=some (keyS s):=by
 unfold keyS
 simp [keyOf,Tryz.underlying9,mapKey,h]
theorem xzxy {s s':ByteArray}(h:keyS s=keyS s'):s=s':=by
 unfold keyS at h
 injection h with h
 apply ByteArray.ext
 exact Array.toList_inj.1 h
theorem xzxz (s:ByteArray):WideAt.IsKeyLit (keyS s):=trivial
theorem zero3D (w:World):(zeroValue 3).run Tryz.prog w=.ok (.int .i64 0) w:=by kernel_rfl
theorem xznh {L:List (List Int)}{x:List Int}{i:Nat}(h:findL L x=some i):1<=i/\i<L.length/\L.getD i []=x:=by
 unfold findL at h;have h1:=List.find?_some h;have h2:=List.mem_of_find?_eq_some h;simp only [Bool.and_eq_true,decide_eq_true_eq]at h1;exact⟨h1.1,List.mem_range.1 h2,h1.2⟩
theorem xzya {L:List (List Int)}{x:List Int}(h:findL L x=none)(i:Nat)(h1:1<=i)(hi:i<L.length):L.getD i []≠x:=fun e=>by
 unfold findL at h;rw [List.find?_eq_none]at h;exact h i (List.mem_range.2 hi) (by rw [decide_eq_true h1,decide_eq_true e];rfl)
theorem num_old {K:List (List Int)}{D:DataW Unit}{x:List Int}{i:Nat}(hf:findL K x=some i)
 (h2:∀ s:ByteArray,Maps.has D (keyS s)=(List.range K.length).any fun i=>decide (1<=i)&&decide (textK (K.getD i [])=s))
 (h3:∀ i,1<=i->i<K.length->D.atKey (keyS (textK (K.getD i []))) (.lit (.int .i64 0))=.lit (.int .i64 (i:Nat))):
 Maps.has D (keyS (textK x))=true/\D.atKey (keyS (textK x)) (.lit (.int .i64 0))=.lit (.int .i64 (i:Nat)):=by
 obtain⟨a1,a2,a3⟩:=xznh hf;refine⟨?_,by rw [<-a3];exact h3 i a1 a2⟩;rw [h2,List.any_eq_true];exact⟨i,List.mem_range.2 a2,by rw [decide_eq_true a1,a3];simp⟩
theorem num_not {N:Nf}(hn:N.sets.length<=2000){K:List (List Int)}{D:DataW Unit}{x:List Int}(hf:findL K x=none)(hK:∀ y∈K,Kept N y)(hx:Kept N x)
 (h2:∀ s:ByteArray,Maps.has D (keyS s)=(List.range K.length).any fun i=>decide (1<=i)&&decide (textK (K.getD i [])=s)):Maps.has D (keyS (textK x))=false:=by
 rw [h2,Bool.eq_false_iff];intro h;obtain⟨i,hi,h4⟩:=List.any_eq_true.1 h;simp only [Bool.and_eq_true,decide_eq_true_eq]at h4;have hi':=List.mem_range.1 hi
 have hm:K.getD i []∈K:=by rw [List.getD_eq_getElem?_getD,List.getElem?_eq_getElem hi'];exact List.getElem_mem hi'
 exact xzya hf i h4.1 hi' (yzgp hn (hK _ hm) hx h4.2)
theorem yzgr {W':World}{M:Nat}{K:List (List Int)}{D:DataW Unit}{x:List Int}{W:World}(h1:W.ownsMap Tryz.prog 9 (plainElem Tryz.prog 3) M K.length D)(hK1:1<=K.length)
 (hnot:Maps.has D (keyS (textK x))=false)
 (h2:∀ s:ByteArray,Maps.has D (keyS s)=(List.range K.length).any fun i=>decide (1<=i)&&decide (textK (K.getD i [])=s))
 (h3:∀ i,1<=i->i<K.length->D.atKey (keyS (textK (K.getD i []))) (.lit (.int .i64 0))=.lit (.int .i64 (i:Nat)))
 (h1':W'.ownsMap Tryz.prog 9 (plainElem Tryz.prog 3) M (K.length+1) (D.put (keyS (textK x)) (.lit (.int .i64 (K.length:Nat))))):NumIs W' M (K++[x]):=by
 have hM:=h1.isMap
 have hget:∀ i,i<K.length->(K++[x]).getD i []=K.getD i []:=fun i hi=>by
  rw [List.getD_eq_getElem?_getD,List.getD_eq_getElem?_getD,List.getElem?_append_left hi]
 have hlast:(K++[x]).getD K.length []=x:=by rw [List.getD_eq_getElem?_getD,List.getElem?_append_right (Nat.le_refl _)];simp
 refine⟨_,by rw [List.length_append];exact h1',fun s=>?_,fun i hi1 hi=>?_⟩
 ·have hr:((List.range (K++[x]).length).any fun i=>decide (1<=i)&&decide (textK ((K++[x]).getD i [])=s))=(((List.range K.length).any fun i=>decide (1<=i)&&decide (textK (K.getD i [])=s))||decide (textK x=s)):=by
   rw [List.length_append,List.length_singleton,List.range_succ,List.any_append]
   congr 1
   ·rw [Bool.eq_iff_iff,List.any_eq_true,List.any_eq_true]
    constructor
    ·rintro⟨i,hi,h⟩;refine⟨i,hi,?_⟩;rwa [hget i (List.mem_range.1 hi)]at h
    ·rintro⟨i,hi,h⟩;refine⟨i,hi,?_⟩;rwa [hget i (List.mem_range.1 hi)]
   ·simp only [List.any_cons,List.any_nil,Bool.or_false,hlast,decide_eq_true hK1,Bool.true_and]
  rw [hr]
  by_cases e:textK x=s
  ·subst e
   rw [Maps.has_put_same hM (xzxz _)];simp
  ·rw [Maps.has_put_other (fun h=>e (xzxy h).symm),h2,decide_eq_false e,Bool.or_false]
 ·rw [List.length_append,List.length_singleton]at hi
  by_cases e:i=K.length
  ·subst e
   rw [hlast,Maps.atKey_put_same hM (xzxz _)]
  ·have hi':i<K.length:=by omega
   rw [hget i hi']
   have hne:keyS (textK (K.getD i []))≠keyS (textK x):=fun h=>by
    have h5:=h2 (textK x);rw [hnot]at h5;have:((List.range K.length).any fun i=>decide (1<=i)&&decide (textK (K.getD i [])=textK x))=true:=List.any_eq_true.2 ⟨i,List.mem_range.2 hi',by rw [decide_eq_true hi1,decide_eq_true (xzxy h)];rfl⟩;rw [this]at h5;cases h5
   rw [Maps.atKey_put_other hne,h3 i hi1 hi']
theorem xzni (f:Nat->Bool):(textR f).size=256:=by
 unfold textR
 show(List.map _ _).toArray.size=256
 simp
set_option maxRecDepth 20000 in
set_option maxHeartbeats 16000000 in
theorem yzci (p:SP)(ρ:Nat->Nat)(D:SD)(V:MkV)(bs:Nat->Nat)(w:World)(h:SM p ρ D V bs w)(x:List Int)(i:Nat)(hKL:D.K=D.L)(hf:findL D.L x=some i):
 Calls Tryz.prog 47 #[.pointer (some ⟨p.g,0,none⟩),.agg (rowA (setOf x))] w fun e w'=>e=.returned (.int .i64 (i:Nat))/\Below w.heap.size w w':=by
 have F: ¬ False:=fun h=>h
 obtain⟨Dm,n1,n2,n3⟩:=h.mp F;rw [hKL]at n1 n2 n3;obtain⟨W1,hW1⟩:∃ W1,(w.alloc (.cells (rowA (setOf x)) 65))=W1:=⟨_,rfl⟩
 have hs1:W1.heap.size=w.heap.size+1:=by rw [<-hW1];simp
 have hb1:Below w.heap.size w W1:=by rw [<-hW1];exact(Below.refl _ _).alloc (Nat.le_refl _) _
 have hx1:RowAt W1 w.heap.size 0 (setOf x):=by rw [<-hW1];exact BlkF.row (newF w _ _) (xzbo _)
 have HTX:=zd (xzkg w.heap.size 0 (setOf x) W1 hx1);have hkey:=yzef (textK x) (by unfold textK;rw [xzni];unfold maxLen;decide)
 have HMP:=zd (fun(u:World) (hu:Below w.heap.size w u)=>(show u.ownsMap Tryz.prog 9 (plainElem Tryz.prog 3) p.M D.L.length Dm by
  have hm:p.M<w.heap.size:=n1.lt;unfold World.ownsMap at n1 ⊢;obtain⟨es,clock,hbk,h3⟩:=n1
  exact⟨es,clock,(hu.block p.M hm).trans hbk,h3⟩))
 obtain⟨k2,k3⟩:=num_old hf n2 n3;have HC:=zd (fun(u:World) (hu:Below w.heap.size w u)=>(h.step hu).cells.2.2.2.2.2.2.2.2.2.2.2.2);have HB:=zd (And.intro hb1 hx1);clear h hb1 hx1 n1 n2 n3
 go_enter Tryz.func47,Tryz.ntmps47
 go_wp2_with fail
 go_at_call 79
 refine HTX.out.mono ?_;rintro e u ⟨rfl,hbu⟩;have HU:=zd (HB.out.1.trans (hbu.mono HB.out.1.size));have c268:=HC.out u HU.out;clear hbu
 go_wp2_with(first
  |(at_lookup;refine wpList_lookup_own_ok_int _ rfl _ _ 62 rfl 9 3 .i64 xzpd Tryz.underlying62 Tryz.underlying3 (zero3D _) p.M D.L.length _ rfl (HMP.out _ HU.out) _ _ rfl hkey ?_;rw [k2];intro c hat hwc))
 go_ret
 have hc:c=(i:Nat):=by
  rw [k3]at hat
  simpa using hat.symm
 exact⟨by rw [hc];rfl,HU.out⟩
def growD (p:SP)(D:SD)(x:List Int):SD:={D with L:=D.L++[x],K:=D.K++[x],nxt:=D.nxt++[List.replicate p.C (-1)],T:=D.T++[tagTo p.N (setOf x) p.N.rules.length]}
set_option maxRecDepth 20000 in
set_option maxHeartbeats 16000000 in
theorem yzcj (p:SP)(ρ:Nat->Nat)(D:SD)(V:MkV)(bs:Nat->Nat)(w:World)(h:SM p ρ D V bs w)(x:List Int)(hKL:D.K=D.L)(hf:findL D.L x=none)(hmi:MayIs p.N)(hL1:1<=D.L.length)(hk:∀ y∈D.L,Kept p.N y)(hx:Kept p.N x)(hC:p.C<=256)(hn:D.L.length<=1000/\D.nxt.length=D.L.length/\D.T.length=D.L.length):
 Calls Tryz.prog 47 #[.pointer (some ⟨p.g,0,none⟩),.agg (rowA (setOf x))] w fun e w'=>e=.returned (.int .i64 (D.L.length:Nat))/\∃ ρ' V' bs',SM p ρ' (growD p D x) V' bs' w'/\V'.reach=V.reach/\
  w.heap.size<=w'.heap.size/\(∀ k,k<w.heap.size->ρ' k=ρ k)/\(∀ k,k<w.heap.size->ρ k=0->w'.heap[k]? =w.heap[k]?)/\w'.ownsRow p.B 26 1 V.next D.nxt.length (hdrs bs p.C D.nxt.length)/\(∀ i,i<D.nxt.length->bs' i=bs i):=by
 have F: ¬ False:=fun h=>h
 obtain⟨Dm,n1,n2,n3⟩:=h.mp F;rw [hKL]at n1 n2 n3;obtain⟨W1,hW1⟩:∃ W1,(w.alloc (.cells (rowA (setOf x)) 65))=W1:=⟨_,rfl⟩
 have hs1:W1.heap.size=w.heap.size+1:=by rw [<-hW1];simp
 have hb1:Below w.heap.size w W1:=by rw [<-hW1];exact(Below.refl _ _).alloc (Nat.le_refl _) _
 have hx1:RowAt W1 w.heap.size 0 (setOf x):=by rw [<-hW1];exact BlkF.row (newF w _ _) (xzbo _)
 have HTX:=zd (xzkg w.heap.size 0 (setOf x) W1 hx1);have hkey:=yzef (textK x) (by unfold textK;rw [xzni];unfold maxLen;decide)
 have HMP:=zd (fun(u:World) (hu:Below w.heap.size w u)=>(show u.ownsMap Tryz.prog 9 (plainElem Tryz.prog 3) p.M D.L.length Dm by
  have hm:p.M<w.heap.size:=n1.lt;unfold World.ownsMap at n1 ⊢;obtain⟨es,clock,hbk,h3⟩:=n1
  exact⟨es,clock,(hu.block p.M hm).trans hbk,h3⟩))
 have hnot:=num_not (by have:=hmi.small;omega) hf hk hx n2;have HN:=zd (fun(W':World) (h':W'.ownsMap Tryz.prog 9 (plainElem Tryz.prog 3) p.M (D.L.length+1) (Dm.put (keyS (textK x)) (.lit (.int .i64 (D.L.length:Nat)))))=>yzgr n1 hL1 hnot n2 n3 h');have HSM:=zd (And.intro h (And.intro hmi (And.intro hC (And.intro hn hKL))));have HB:=zd (And.intro hb1 hx1);obtain⟨As,cs,es,hcs⟩:=(h.st F).form;rw [List.length_map]at es;have HES:=zd es;clear h hb1 hx1 n1 n2 n3 hmi hk hx hf hcs es
 go_enter Tryz.func47,Tryz.ntmps47
 go_wp2_with fail
 go_at_call 79
 refine HTX.out.mono ?_;rintro e u ⟨rfl,hbu⟩;have HU:=zd (And.intro (HB.out.1.trans (hbu.mono HB.out.1.size)) (HB.out.2.step hbu));have hcl:=(HSM.out.1.step HU.out.1).cells;obtain⟨_,_,_,_,_,_,_,_,_,_,_,c267,c268⟩:=hcl;rw [HES.out]at c267;clear hbu
 go_wp2_with(first
  |(at_lookup;refine wpList_lookup_own_ok_int _ rfl _ _ 62 rfl 9 3 .i64 xzpd Tryz.underlying62 Tryz.underlying3 (zero3D _) p.M D.L.length _ rfl (HMP.out _ HU.out.1) _ _ rfl hkey ?_;rw [hnot];intro c hat hwc)
  |(at_mapUpdate;refine wpList_mapUpdate_own _ rfl _ _ _ 62 rfl 9 3 xzpd Tryz.underlying62 _ p.M D.L.length _ rfl (HMP.out _ HU.out.1) (by unfold maxLen;have:=HSM.out.2.2.2.1.1;omega) _ _ _ rfl rfl hkey _ [] (plainElem_int Tryz.underlying3 (by have:=HSM.out.2.2.2.1.1;simp [Lit.wf,IntKind.min,IntKind.max,IntKind.signed,IntKind.bits];omega)) ?_;intro w1 hown1 hgrow1))
 have hM:p.M<w.heap.size:=(HSM.out.1.mp (fun h=>h)).lt;have hs0:=(HSM.out.1.role (some w.heap.size) 0 (fun k e=>.inr (by injection e;omega))).step HU.out.1
 have hk0:∀ k,k<w.heap.size->(fun k=>if some w.heap.size=some k then 0 else ρ k) k=ρ k:=fun k hk=>by
  have: ¬ some w.heap.size=some k:=fun e=>by injection e;omega
  simp only [if_neg this]
 have hz0:(fun k=>if some w.heap.size=some k then 0 else ρ k) w.heap.size=0:=by simp
 generalize(fun k=>if some w.heap.size=some k then 0 else ρ k)=ρ0 at*
 have m2:=(hs0.tn (r':=fun k=>k=2) (fun _ h=>h.elim) (Tn.grown hgrow1) (fun k e=>by
  obtain rfl:p.M=k:=Option.some.inj e
  exact⟨hs0.low.2.2,.inl hs0.ro.2.1⟩)).newMap (HN.out w1 hown1)
 have hx1:RowAt w1 w.heap.size 0 (setOf x):=HU.out.2.heap (hgrow1.block _ (World.block_lt_of_cell? u ⟨w.heap.size,0+0,none⟩ (HU.out.2 0 (by decide))) (fun e=>by injection e;omega))
 have hf1:∀ k,k<w.heap.size->ρ k=0->w1.heap[k]? =w.heap[k]? :=fun k hk h0=>(hgrow1.block k (by have:=HU.out.1.size;omega) (fun e=>by
  injection e with e
  have:=HSM.out.1.ro.2.1
  rw [<-e,h0]at this;cases this)).trans (HU.out.1.block k hk)
 have HM2:=zd (And.intro m2 (And.intro hx1 (And.intro hf1 (And.intro hk0 (And.intro hz0 (show w.heap.size<=w1.heap.size by have:=hgrow1.size;have:=HU.out.1.size;omega))))));clear hs0 m2 hx1 hf1 hk0 hz0 hown1 hgrow1 c267 c268 hwc hat;refine wp_region_held_drew (S:=fun u'=>RowAt u' w.heap.size 0 (setOf x)) (by kernel_rfl) (HM2.out.2.1.heap rfl) ?_;intro hS0;refine wpAnyH_take (i:=0) (v:=.pointer (some ⟨p.g,0,none⟩)) rfl (by kernel_rfl) (by kernel_rfl) (by kernel_rfl) (fun _ _ _ h=>h) (.inl ⟨rfl,fun u hu=>by go_simp⟩) hS0 ?_;refine wpAnyH_take (i:=1) (v:=.agg (rowA (setOf x))) rfl (by kernel_rfl) (by kernel_rfl) (by kernel_rfl) (fun _ _ _ h=>h) (.inl ⟨rfl,fun u hu=>xzdc 65 (.tmp 3) _ rfl rfl (loadRw hu)⟩) hS0 ?_;refine wpAnyH_take (i:=2) (v:=.pointer (some ⟨p.g,0,none⟩)) rfl (by kernel_rfl) (by kernel_rfl) (by kernel_rfl) (fun _ _ _ h=>h) (.inl ⟨rfl,fun u hu=>by go_simp⟩) hS0 ?_;refine wpAnyH_take (i:=3) (v:=.agg (rowA (setOf x))) rfl (by kernel_rfl) (by kernel_rfl) (by kernel_rfl) (fun _ _ _ h=>h) (.inl ⟨rfl,fun u hu=>xzdc 65 (.tmp 3) _ rfl rfl (loadRw hu)⟩) hS0 ?_;have hd:=HM2.out.1.step (Below.refl _ _).drew;have HTG:=zd (yzch p ρ0 _ V bs _ hd HSM.out.2.1 (setOf x));refine wpAnyH_ready (rs:=[4]) (by kernel_rfl) (by simp) ?_;refine AllReadyH.cons rfl (fun K hK=>?_) AllReadyH.nil;go_simp
 go_at_call 80
 refine HTG.out.mono ?_;rintro e u2 ⟨rfl,hb2⟩;refine hK.out _ _ (hS0.step hb2) (fun hS1=>?_);have HAD:=zd (xzrv p ρ0 _ V bs u2 (hd.step hb2) x (tagTo p.N (setOf x) p.N.rules.length) HSM.out.2.2.1 (by have:=HSM.out.2.2.2.1;show D.L.length<=_/\D.nxt.length<=_/\D.T.length<=_;omega));have HF2:=zd (show(∀ k,k<w.heap.size->ρ k=0->u2.heap[k]? =w.heap[k]?)/\w.heap.size<u2.heap.size from⟨fun k hk h0=>(hb2.block k (by have:=HM2.out.2.2.2.2.2;exact Nat.lt_of_lt_of_le hk this)).trans (HM2.out.2.2.1 k hk h0),World.block_lt_of_cell? u2 ⟨w.heap.size,0+0,none⟩ (hS1 0 (by decide))⟩);clear hK K hb2 hd HTG;refine wpAnyH_ready (rs:=[5]) (by kernel_rfl) (by simp) ?_;refine AllReadyH.cons rfl (fun K hK=>?_) AllReadyH.nil;go_simp
 go_at_call 44
 refine HAD.out.mono ?_;rintro e u3 ⟨rfl,ρ3,V3,bs3,h3,h4,h5,h6,h7,h8⟩;refine hK.out _ _ (hS1.heap (h7 _ HF2.out.2 HM2.out.2.2.2.2.1)) (fun hS2=>?_)
 have HE:=zd (show SM p ρ3 (growD p D x) V3 bs3 u3/\V3.reach=V.reach/\w.heap.size<=u3.heap.size/\(∀ k,k<w.heap.size->ρ3 k=ρ k)/\(∀ k,k<w.heap.size->ρ k=0->u3.heap[k]? =w.heap[k]?)/\u3.ownsRow p.B 26 1 V.next D.nxt.length (hdrs bs p.C D.nxt.length)/\(∀ i,i<D.nxt.length->bs3 i=bs i)from
  ⟨by unfold growD;rw [HSM.out.2.2.2.2];exact h3,h4,by have:=HF2.out.2;omega,fun k hk=>(h6 k (by have:=HF2.out.2;omega)).trans (HM2.out.2.2.2.1 k hk),fun k hk h0=>(h7 k (by have:=HF2.out.2;omega) ((HM2.out.2.2.2.1 k hk).trans h0)).trans (HF2.out.1 k hk h0),h8⟩)
 clear hK K h3 h4 h5 h6 h7 h8 HAD hS0 hS1 hS2;refine wpAnyH_done (by kernel_rfl) ?_ _;go_wp2;go_ret;exact⟨rfl,_,_,_,HE.out.1,HE.out.2⟩
end
end Go.Proofs.YtgbljnnmhmlifaaGreatDoor
