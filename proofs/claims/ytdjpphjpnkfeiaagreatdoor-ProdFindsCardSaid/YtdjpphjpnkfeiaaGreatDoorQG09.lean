/-
 WHAT lookBehind OF THE MAKER OF SUBSETS DOES: a contract. Condition: the automaton with choices may be; there is the state.
-/
import Derived.Test.YtdjpphjpnkfeiaaGreatDoorQG08
import Derived.Test.YtdjpphjpnkfeiaaGreatDoorQG04
import Derived.Test.YtdjpphjpnkfeiaaGreatDoorQG05
namespace Go.Proofs.YtdjpphjpnkfeiaaGreatDoor
section
open Go.RowKit
theorem putR (V:MkV)(W':World)(g:Nat)(q:Nat)(hq:q<2048)(h:BlkF W' g 129 301 (putV (mkF V) (269+q / 64) (rowP (plus V.reach q) (q / 64)))):BlkF W' g 129 301 (mkF {V with reach:=plus V.reach q}):=by
 rw [xzyn V q hq]at h;exact h
theorem mkF_low (V:MkV)(f:Nat->Bool){i:Nat}(h2:i<269):mkF {V with reach:=f} i=mkF V i:=by
 have:i<256\/i=256\/i=257\/i=258\/i=259\/i=260\/i=261\/i=262\/i=263\/i=264\/i=265\/i=266\/i=267\/i=268:=by omega
 rcases this with h|rfl|rfl|rfl|rfl|rfl|rfl|rfl|rfl|rfl|rfl|rfl|rfl|rfl
 ·unfold mkF;simp only [if_pos h]
 all_goals rfl
theorem joinR (V:MkV)(f:Nat->Bool)(W:World)(g:Nat)(h:BlkF W g 129 301 (joinF (mkF V) 269 (sOr V.reach f) 32)):BlkF W g 129 301 (mkF {V with reach:=sOr V.reach f}):=by
 have e:cellsN 301 (joinF (mkF V) 269 (sOr V.reach f) 32)=cellsN 301 (mkF {V with reach:=sOr V.reach f}):=xzap fun i hi=>by
  unfold joinF
  by_cases h2:269<=i
  ·rw [if_pos (by omega)]
   unfold mkF
   repeat rw [if_neg (by omega)]
  ·rw [if_neg (by omega)]
   have:i<256\/i=256\/i=257\/i=258\/i=259\/i=260\/i=261\/i=262\/i=263\/i=264\/i=265\/i=266\/i=267\/i=268:=by omega
   rcases this with h|rfl|rfl|rfl|rfl|rfl|rfl|rfl|rfl|rfl|rfl|rfl|rfl|rfl
   ·unfold mkF;simp only [if_pos h]
   all_goals rfl
 unfold BlkF at h ⊢;rw [<-e];exact h
theorem joinR2 (V:MkV)(r f:Nat->Bool)(W:World)(g:Nat)(h:BlkF W g 129 301 (joinF (mkF {V with reach:=r}) 269 (sOr r f) 32)):BlkF W g 129 301 (mkF {V with reach:=sOr r f}):=joinR {V with reach:=r} f W g h
theorem putR2 (V:MkV)(r:Nat->Bool)(W':World)(g:Nat)(q:Nat)(hq:q<2048)(h:BlkF W' g 129 301 (putV (mkF {V with reach:=r}) (269+q / 64) (rowP (plus r q) (q / 64)))):BlkF W' g 129 301 (mkF {V with reach:=plus r q}):=putR {V with reach:=r} W' g q hq h
theorem rowJoinM (V:MkV)(r f2:Nat->Bool)(g g2 o2:Nat)(w:World)(hb:BlkF w g 129 301 (mkF {V with reach:=r}))(h2:RowAt w g2 o2 f2):
 Calls Tryz.prog 108 #[.pointer (some ⟨g,269,none⟩),.pointer (some ⟨g2,o2,none⟩)] w fun e w'=>e=.returned (.tuple #[])/\BlkF w' g 129 301 (mkF {V with reach:=sOr r f2})/\Wrote g w w':=
 (xzqx g 269 301 129 _ r f2 g2 o2 w hb (yzdt {V with reach:=r}) h2).mono fun _ _ h=>⟨h.1,joinR2 V r f2 _ g h.2.1,h.2.2⟩
def behindTo (fol:List (Nat->Bool))(f r:Nat->Bool):Nat->Nat->Bool
 |0=>r
 |n+1=>if f n then sOr (behindTo fol f r n) (fol.getD n fun _=>false)else behindTo fol f r n
def firstTo (N:Nf):Nat->Nat->Bool
 |0=>fun _=>false
 |n+1=>plus (firstTo N n) (N.first.getD n 0).toNat
theorem xzrb {P:Program}{op:Oper}{a:Act}{w:World}{K:Act->World->Prop}{Q:Exit->Act->World->Prop}(s:Operand)(t:TypeId)(hop:op.op=Op.call {callee:=Callee.builtin Builtin.clear,args:=#[s],argTypes:=#[t]}){v v':Value}{w':World}(hs:a.eval s=v)
 (hrun:(Builtin.clear_ #[t] op.type #[v]).run P w=.ok v' w')(h:K (a.put op.dst v') w'):op.wp P a w K Q:=by
 unfold Oper.wp execOp;simp only [hop,resolve,invoke,builtin,Sem.run_bind,Sem.run_pure,Result.andThen_ok,List.map_toArray,List.map_cons,List.map_nil,hs,hrun];exact h
section
variable {P : Program} {op : Oper} {ops : Array Oper} {rest : List Oper} {a : Act} {w : World} {Q : Exit → Act → World → Prop}
theorem xzfy (hg:op.guard=none)(s:Operand)(t:TypeId)(hop:op.op=Op.call {callee:=Callee.builtin Builtin.clear,args:=#[s],argTypes:=#[t]}){v v':Value}{w':World}(hs:a.eval s=v)
 (hrun:(Builtin.clear_ #[t] op.type #[v]).run P w=.ok v' w')(h:wpList P ops Q rest (a.put op.dst v') w'):wpList P ops Q (op::rest) a w:=
 wpList_plain hg fun _ hK=>xzrb s t hop hs hrun (hK _ _ h)
end
theorem BlkF.puts {g:Nat}{t:TypeId}{N:Nat}{z:Value}:∀ (n o:Nat) (W:World) (F:Nat->Value),BlkF W g t N F->BlkF (W.setCells g o (List.replicate n z)) g t N (fun i=>if o<=i/\i<o+n then z else F i)
 |0,o,W,F,h=>by
  have e:(fun i=>if o<=i/\i<o+0 then z else F i)=F:=by funext i;rw [if_neg (by omega)]
  rw [e];exact h
 |n+1,o,W,F,h=>by
  rw [List.replicate_succ,World.setCells];have:=BlkF.puts (z:=z) n (o+1) _ _ (h.put o z)
  have e:(fun i=>if o+1<=i/\i<o+1+n then z else putV F o z i)=(fun i=>if o<=i/\i<o+(n+1)then z else F i):=by
   funext i;unfold putV
   by_cases h1:i=o
   ·subst h1;rw [if_neg (by omega),if_pos rfl,if_pos (by omega)]
   ·by_cases h2:o+1<=i/\i<o+1+n
    ·rw [if_pos h2,if_pos (by omega)]
    ·rw [if_neg h2,if_neg h1,if_neg (by omega)]
  rw [e]at this;exact this
theorem xzue:Builtin.zeroCells #[Value.int .u64 0] 32=(List.replicate 32 (Value.int .u64 0)).toArray:=by kernel_rfl
theorem xzuf {W:World}{g:Nat}{t:TypeId}{F:Nat->Value}(h:BlkF W g t 301 F)(ty:TypeId):
 (Builtin.clear_ #[183] ty #[.slice (some ⟨g,269,none⟩) 32 32]).run Tryz.prog W=.ok (.tuple #[]) (W.setCells g 269 (List.replicate 32 (.int .u64 0))):=by
 have hz:∀ w:World,(zeroValue 46).run Tryz.prog w=.ok (.int .u64 0) w:=fun w=>by kernel_rfl
 have hst:=run_storeCells_cells (P:=Tryz.prog) g 269 (List.replicate 32 (Value.int .u64 0)) 0 W (fun j hj=>by
  rw [List.length_replicate]at hj
  rw [h.cell (by omega)];rfl) (fun j hj=>BlkIs.frozen h _) (fun v hv=>by rw [(List.mem_replicate.1 hv).2];rfl)
 unfold Builtin.clear_;simp only [zq,Sem.run_bind,run_underlying Tryz.underlying183,Result.andThen_ok,hz,Sem.run_pure]
 have e:(Builtin.zeroCells (Value.int .u64 0).cells 32).toList=List.replicate 32 (Value.int .u64 0):=by
  show(Builtin.zeroCells #[Value.int .u64 0] 32).toList=_
  rw [xzue]
 rw [e,hst]
 rfl
theorem clearR (V:MkV)(W:World)(g:Nat)(h:BlkF W g 129 301 (mkF V)):BlkF (W.setCells g 269 (List.replicate 32 (.int .u64 0))) g 129 301 (mkF {V with reach:=fun _=>false}):=by
 have h1:=BlkF.puts (z:=.int .u64 0) 32 269 W (mkF V) h
 have e:cellsN 301 (fun i=>if 269<=i/\i<269+32 then Value.int .u64 0 else mkF V i)=cellsN 301 (mkF {V with reach:=fun _=>false}):=xzap fun i hi=>by
  by_cases h2:269<=i
  ·rw [if_pos (by omega)]
   unfold mkF
   repeat rw [if_neg (by omega)]
   show Value.int .u64 0=Value.int .u64 ((wd (fun _=>false) (i - 269):Nat):Int)
   rw [wd_noP];rfl
  ·rw [if_neg (by omega)];exact(mkF_low V (fun _=>false) (by omega)).symm
 unfold BlkF at h1 ⊢;rw [<-e];exact h1
set_option maxRecDepth 20000 in
set_option maxHeartbeats 16000000 in
theorem xzug (p:SP)(ρ:Nat->Nat)(D:SD)(V:MkV)(bs:Nat->Nat)(w:World)(h:SM p ρ D V bs w)(hmi:MayIs p.N)(at':Nat)(hat:at'<D.L.length)(hfl:D.fol.length<=2000):
 Calls Tryz.prog 87 #[.pointer (some ⟨p.g,0,none⟩),.int .i64 at'] w fun e w'=>e=.returned (.tuple #[])/\BlkF w' p.g 129 301 (mkF {V with reach:=behindTo D.fol (setOf (D.L.getD at' [])) (if at'=0 then firstTo p.N p.N.first.length else fun _=>false) D.fol.length})/\Wrote p.g w w':=by
 have F: ¬ False:=fun h=>h
 have hb:=h.blk F;have hcl:=xzuf hb 183;have hz:=clearR V w p.g hb;have hw0:Wrote p.g w (w.setCells p.g 269 (List.replicate 32 (.int .u64 0))):=Wrote.cells _ _ _ _;obtain⟨W1,hW1⟩:∃ W1,w.setCells p.g 269 (List.replicate 32 (.int .u64 0))=W1:=⟨_,rfl⟩;rw [hW1]at hcl hz hw0;obtain⟨_,hi2,_,_⟩:=h.ints;obtain⟨A2,c2,e2,hc2,hg2⟩:=hi2
 have hst:=(h.st F).at at' (by simpa using hat);obtain⟨sb,sc,es,eso,hsl,hsr⟩:=hst;rw [List.length_map]at es
 have esx:(D.L.map setOf)[at']'(by simpa using hat)=setOf (D.L.getD at' []):=by
  rw [List.getElem_map,List.getD_eq_getElem?_getD,List.getElem?_eq_getElem hat];rfl
 rw [esx]at hsr
 have hsg:sb≠p.g:=fun e=>by have:=h.ro.2.2.2.2.1 sb eso;rw [e,h.ro.1]at this;cases this
 have HST:=zd (fun(u:World) (hu:Wrote p.g w u)=>hsr.heap (hu.1 sb hsg))
 have HFO:=zd (fun(k:Nat) (hk:k<D.fol.length)=>(show ∃ b c,V.fol=.slice (some ⟨b,0,none⟩) D.fol.length c/\b≠p.g/\∀ u:World,Wrote p.g w u->RowAt u b (k*32) (D.fol.getD k fun _=>false)by
  obtain⟨b,c,e1,e2,e3,e4⟩:=(h.fo F).at k hk
  have hne:b≠p.g:=fun e=>by have:=h.ro.2.2.1 b e2;rw [e,h.ro.1]at this;cases this
  refine⟨b,c,e1,hne,fun u hu=>?_⟩;rw [List.getD_eq_getElem?_getD,List.getElem?_eq_getElem hk]
  exact e4.heap (hu.1 b hne)))
 obtain⟨Af,cf,ef,hcf⟩:=(h.fo F).form
 have hB:p.W0.heap.size<=p.g:=by rw [h.low.1];exact h.low.2.1
 have HFI:=zd (fun(k:Nat) (hk:k<p.N.first.length)=>(show ∃ b o,A2=some ⟨b,o,none⟩/\∃ q:Nat,q<2048/\p.N.first.getD k 0=(q:Int)/\∀ u:World,Wrote p.g w u->u.cell? ⟨b,o+k,none⟩=some (.int .i64 (q:Nat))by
  obtain⟨v0,v1,v2,v3,v4,e,_,_,hn2,_,_⟩:=h.nfa
  injection e with e
  injection e with e
  simp only [List.cons.injEq]at e;obtain⟨_,_,rfl,_,_,_⟩:=e;obtain⟨A,c,e5,_,hs⟩:=hn2;rw [e2]at e5
  cases e5
  obtain⟨b,o,e1,l1,g1⟩:=hs (by intro e;rw [e]at hk;simp at hk);have hq:=(hmi.firsts.1 _ (List.getElem_mem hk));obtain⟨q,hqe⟩:=Int.eq_ofNat_of_zero_le hq.1;refine⟨b,o,e1,q,by have:=hmi.small;omega,by rw [List.getD_eq_getElem?_getD,List.getElem?_eq_getElem hk];exact hqe,fun u hu=>?_⟩
  have hbg:b≠p.g:=by omega
  have hbw:Below p.W0.heap.size p.W0 w:=by rw [h.low.1];exact h.below
  rw [xzbi (hu.1 b hbg),hbw.cell (p:=⟨b,o+k,none⟩) l1,g1 k hk,hqe]))
 have HZ:=zd (And.intro hz hw0);have c2x:=(xzaq hz).2.2.2.2.2.1;have hcz:=(xzaq hb);rw [e2]at c2x;have HLF:=zd hfl;have HE:=zd (And.intro ef (And.intro es e2));obtain⟨f,hf⟩:∃ f,f=setOf (D.L.getD at' []):=⟨_,rfl⟩;rw [<-hf]at HST ⊢;clear h hb hz hw0 hsr esx hf hg2 hcz
 by_cases h0:at'=0
 ·rw [if_pos h0]
  subst h0
  go_enter Tryz.func87,Tryz.ntmps87
  go_wp2_with(refine xzfy rfl _ 183 rfl rfl hcl ?_)
  go_loopw [5,20] (fun _ i wr=>∃ k:Nat,i=.int .i64 k/\k<=p.N.first.length/\Hid (BlkF wr p.g 129 301 (mkF {V with reach:=firstTo p.N k})/\Wrote p.g w wr)) (fun _ i _=>p.N.first.length - (intOf i).toNat)
  case atStart=>exact⟨0,rfl,Nat.zero_le _,HZ⟩
  case round=>
   obtain⟨k,rfl,hk,HH⟩:=hrel
   by_cases hp:k<p.N.first.length
   ·have hk1:IntKind.i64.wrap ((k:Int)+1)=((k+1:Nat):Int):=by rw [IntKind.wrap_i64];omega
    have hdl:decide ((k:Int)<(p.N.first.length:Int))=true:=by simp;omega
    obtain⟨b,o,rfl,q,hq,hqe,hqc⟩:=HFI.out k hp;have hcq:=hqc wr HH.out.2;have HA:=zd (xzhd p.g 269 301 129 _ (firstTo p.N k) q wr HH.out.1 (yzdt _) hq);have HQ:=zd (And.intro hq (show firstTo p.N (k+1)=plus (firstTo p.N k) q by simp only [firstTo,hqe];rfl));clear hqe hqc hq
    go_wp2_with fail
    go_at_call 103
    refine HA.out.mono ?_;rintro e u ⟨rfl,hb,hw⟩;have hb:=putR2 V (firstTo p.N k) u p.g q HQ.out.1 hb;have HN:=zd (show BlkF u p.g 129 301 (mkF {V with reach:=firstTo p.N (k+1)})/\Wrote p.g w u from⟨by rw [HQ.out.2];exact hb,HH.out.2.trans hw⟩);clear hb hw;go_wp2;exact⟨⟨k+1,rfl,hp,HN⟩,by simp [intOf];omega⟩
   ·have hdl:decide ((k:Int)<(p.N.first.length:Int))=false:=by simp;omega
    obtain rfl:k=p.N.first.length:=by omega
    have c5x:=(xzaq HH.out.1).2.2.2.2.2.2.2.2.2.1;rw [HE.out.1]at c5x;go_wp2
    go_loopw [6,35] (fun _ i wr=>∃ k:Nat,i=.int .i64 k/\k<=D.fol.length/\Hid (BlkF wr p.g 129 301 (mkF {V with reach:=behindTo D.fol f (firstTo p.N p.N.first.length) k})/\Wrote p.g w wr)) (fun _ i _=>D.fol.length - (intOf i).toNat)
    case atStart=>exact⟨0,rfl,Nat.zero_le _,HH⟩
    case round=>
     obtain⟨k,rfl,hk,HH⟩:=hrel;clear c5x c2x
     by_cases hp:k<D.fol.length
     ·have hk1:IntKind.i64.wrap ((k:Int)+1)=((k+1:Nat):Int):=by rw [IntKind.wrap_i64];have:=HLF.out;omega
      have hdl:decide ((k:Int)<(D.fol.length:Int))=true:=by simp;omega
      have c7x:=(xzaq HH.out.1).2.2.2.2.2.2.2.2.2.2.2.1;rw [HE.out.2.1]at c7x
      have hil:(0:Int)<(D.L.length:Int):=by omega
      have HHAS:=zd (xzhe sb 0 f k wr (by have:=HST.out wr HH.out.2;rwa [Nat.zero_mul]at this) (by have:=HLF.out;omega))
      cases hfk:f k with
      |false=>
       rw [hfk]at HHAS;have HN:=zd (show BlkF wr p.g 129 301 (mkF {V with reach:=behindTo D.fol f (firstTo p.N p.N.first.length) (k+1)})/\Wrote p.g w wr from⟨by simp only [behindTo,hfk];exact HH.out.1,HH.out.2⟩);clear hfk
       go_wp2_with fail
       go_at_call 107
       refine HHAS.out.mono ?_;rintro e u ⟨rfl,rfl⟩;go_wp2;exact⟨⟨k+1,rfl,hp,HN⟩,by simp [intOf];omega⟩
      |true=>
       rw [hfk]at HHAS;obtain⟨fb,fc,hfe,hfg,hfr⟩:=HFO.out k hp;have HE2:=zd hfe;have HRF:=zd hfr
       have hil2:(k:Int)<(D.fol.length:Int):=by omega
       have HBS:=zd (show behindTo D.fol f (firstTo p.N p.N.first.length) (k+1)=sOr (behindTo D.fol f (firstTo p.N p.N.first.length) k) (D.fol.getD k fun _=>false)by simp only [behindTo,hfk];rfl);clear hfk hfe hfr
       go_wp2_with fail
       go_at_call 107
       refine HHAS.out.mono ?_;rintro e u ⟨rfl,rfl⟩;clear c7x
       go_wp2_with fail
       refine wp_region_held_drew (S:=fun u'=>u'.cell? ⟨p.g,265,none⟩=some (.slice (some ⟨fb,0,none⟩) D.fol.length fc)) (by kernel_rfl) (by rw [<-HE2.out];exact(xzaq HH.out.1).2.2.2.2.2.2.2.2.2.1) ?_;intro hS0;refine wpAnyH_take (i:=0) (v:=.pointer (some ⟨p.g,0,none⟩)) rfl (by kernel_rfl) (by kernel_rfl) (by kernel_rfl) (fun _ _ _ h=>h) (.inl ⟨rfl,fun u hu=>by go_simp⟩) hS0 ?_;refine wpAnyH_take (i:=1) (v:=.pointer (some ⟨p.g,0,none⟩)) rfl (by kernel_rfl) (by kernel_rfl) (by kernel_rfl) (fun _ _ _ h=>h) (.inl ⟨rfl,fun u hu=>by go_simp⟩) hS0 ?_;refine wpAnyH_take (i:=2) (v:=.pointer (some ⟨p.g,269,none⟩)) rfl (by kernel_rfl) (by kernel_rfl) (by kernel_rfl) (fun _ _ _ h=>h) (.inl ⟨rfl,fun u hu=>by go_simp⟩) hS0 ?_;refine wpAnyH_take (i:=3) (v:=.pointer (some ⟨p.g,0,none⟩)) rfl (by kernel_rfl) (by kernel_rfl) (by kernel_rfl) (fun _ _ _ h=>h) (.inl ⟨rfl,fun u hu=>by go_simp⟩) hS0 ?_;refine wpAnyH_take (i:=4) (v:=.pointer (some ⟨p.g,0,none⟩)) rfl (by kernel_rfl) (by kernel_rfl) (by kernel_rfl) (fun _ _ _ h=>h) (.inl ⟨rfl,fun u hu=>by go_simp⟩) hS0 ?_;refine wpAnyH_take (i:=5) (v:=.pointer (some ⟨p.g,265,none⟩)) rfl (by kernel_rfl) (by kernel_rfl) (by kernel_rfl) (fun _ _ _ h=>h) (.inl ⟨rfl,fun u hu=>by go_simp⟩) hS0 ?_;refine wpAnyH_take (i:=6) (v:=.slice (some ⟨fb,0,none⟩) D.fol.length fc) rfl (by kernel_rfl) (by kernel_rfl) (by kernel_rfl) (fun _ _ _ h=>h) (.inl ⟨rfl,fun u hu=>by go_simp⟩) hS0 ?_
       refine wpAnyH_take (i:=7) (v:=.int .i64 (k:Int)) rfl (by kernel_rfl) (by kernel_rfl) (by kernel_rfl) (fun _ _ _ h=>h) (.inl ⟨rfl,fun u hu=>by go_simp⟩) hS0 ?_;refine wpAnyH_take (i:=8) (v:=.pointer (some ⟨fb,k*32,none⟩)) rfl (by kernel_rfl) (by kernel_rfl) (by kernel_rfl) (fun _ _ _ h=>h) (.inl ⟨rfl,fun u hu=>by go_simp⟩) hS0 ?_;refine wpAnyH_ready (rs:=[9]) (by kernel_rfl) (by simp) ?_;refine AllReadyH.cons rfl (fun K hK=>?_) AllReadyH.nil;go_simp
       go_at_call 108
       refine(rowJoinM V (behindTo D.fol f (firstTo p.N p.N.first.length) k) (D.fol.getD k fun _=>false) p.g fb (k*32) _ (show BlkF u.drew p.g 129 301 _ from HH.out.1) (HRF.out _ (Wrote.drew HH.out.2))).mono ?_;rintro e u9 ⟨rfl,hb9,hw9⟩;refine hK.out _ _ (by rw [<-HE2.out];exact(xzaq hb9).2.2.2.2.2.2.2.2.2.1) (fun hS1=>?_);have HN:=zd (show BlkF u9 p.g 129 301 (mkF {V with reach:=behindTo D.fol f (firstTo p.N p.N.first.length) (k+1)})/\Wrote p.g w u9 from⟨by rw [HBS.out];exact hb9,(Wrote.drew HH.out.2).trans hw9⟩);clear hK K hS0 hb9 hw9;refine wpAnyH_done (by kernel_rfl) ?_ _;go_wp2;exact⟨⟨k+1,rfl,hp,HN⟩,by simp [intOf];omega⟩
     ·have hdl:decide ((k:Int)<(D.fol.length:Int))=false:=by simp;omega
      obtain rfl:k=D.fol.length:=by omega
      go_wp2
      go_end0
      exact⟨rfl,HH.out⟩
 ·rw [if_neg h0]
  have hz0:decide ((at':Int)=0)=false:=decide_eq_false (by omega)
  have hz1:((at':Int)==0)=false:=by simpa using h0
  go_enter Tryz.func87,Tryz.ntmps87
  have c5x:=(xzaq HZ.out.1).2.2.2.2.2.2.2.2.2.1;rw [HE.out.1]at c5x
  go_wp2_with(refine xzfy rfl _ 183 rfl rfl hcl ?_)
  go_loopw [6,35] (fun _ i wr=>∃ k:Nat,i=.int .i64 k/\k<=D.fol.length/\Hid (BlkF wr p.g 129 301 (mkF {V with reach:=behindTo D.fol f (fun _=>false) k})/\Wrote p.g w wr)) (fun _ i _=>D.fol.length - (intOf i).toNat)
  case atStart=>exact⟨0,rfl,Nat.zero_le _,HZ⟩
  case round=>
   obtain⟨k,rfl,hk,HH⟩:=hrel;clear c5x c2x
   by_cases hp:k<D.fol.length
   ·have hk1:IntKind.i64.wrap ((k:Int)+1)=((k+1:Nat):Int):=by rw [IntKind.wrap_i64];have:=HLF.out;omega
    have hdl:decide ((k:Int)<(D.fol.length:Int))=true:=by simp;omega
    have c7x:=(xzaq HH.out.1).2.2.2.2.2.2.2.2.2.2.2.1;rw [HE.out.2.1]at c7x
    have hil:(at':Int)<(D.L.length:Int):=by omega
    have HHAS:=zd (xzhe sb (at'*32) f k wr (HST.out wr HH.out.2) (by have:=HLF.out;omega))
    cases hfk:f k with
    |false=>
     rw [hfk]at HHAS;have HN:=zd (show BlkF wr p.g 129 301 (mkF {V with reach:=behindTo D.fol f (fun _=>false) (k+1)})/\Wrote p.g w wr from⟨by simp only [behindTo,hfk];exact HH.out.1,HH.out.2⟩);clear hfk
     go_wp2_with fail
     go_at_call 107
     refine HHAS.out.mono ?_;rintro e u ⟨rfl,rfl⟩;go_wp2;exact⟨⟨k+1,rfl,hp,HN⟩,by simp [intOf];omega⟩
    |true=>
     rw [hfk]at HHAS;obtain⟨fb,fc,hfe,hfg,hfr⟩:=HFO.out k hp;have HE2:=zd hfe;have HRF:=zd hfr
     have hil2:(k:Int)<(D.fol.length:Int):=by omega
     have HBS:=zd (show behindTo D.fol f (fun _=>false) (k+1)=sOr (behindTo D.fol f (fun _=>false) k) (D.fol.getD k fun _=>false)by simp only [behindTo,hfk];rfl);clear hfk hfe hfr
     go_wp2_with fail
     go_at_call 107
     refine HHAS.out.mono ?_;rintro e u ⟨rfl,rfl⟩;clear c7x
     go_wp2_with fail
     refine wp_region_held_drew (S:=fun u'=>u'.cell? ⟨p.g,265,none⟩=some (.slice (some ⟨fb,0,none⟩) D.fol.length fc)) (by kernel_rfl) (by rw [<-HE2.out];exact(xzaq HH.out.1).2.2.2.2.2.2.2.2.2.1) ?_;intro hS0;refine wpAnyH_take (i:=0) (v:=.pointer (some ⟨p.g,0,none⟩)) rfl (by kernel_rfl) (by kernel_rfl) (by kernel_rfl) (fun _ _ _ h=>h) (.inl ⟨rfl,fun u hu=>by go_simp⟩) hS0 ?_;refine wpAnyH_take (i:=1) (v:=.pointer (some ⟨p.g,0,none⟩)) rfl (by kernel_rfl) (by kernel_rfl) (by kernel_rfl) (fun _ _ _ h=>h) (.inl ⟨rfl,fun u hu=>by go_simp⟩) hS0 ?_;refine wpAnyH_take (i:=2) (v:=.pointer (some ⟨p.g,269,none⟩)) rfl (by kernel_rfl) (by kernel_rfl) (by kernel_rfl) (fun _ _ _ h=>h) (.inl ⟨rfl,fun u hu=>by go_simp⟩) hS0 ?_;refine wpAnyH_take (i:=3) (v:=.pointer (some ⟨p.g,0,none⟩)) rfl (by kernel_rfl) (by kernel_rfl) (by kernel_rfl) (fun _ _ _ h=>h) (.inl ⟨rfl,fun u hu=>by go_simp⟩) hS0 ?_;refine wpAnyH_take (i:=4) (v:=.pointer (some ⟨p.g,0,none⟩)) rfl (by kernel_rfl) (by kernel_rfl) (by kernel_rfl) (fun _ _ _ h=>h) (.inl ⟨rfl,fun u hu=>by go_simp⟩) hS0 ?_;refine wpAnyH_take (i:=5) (v:=.pointer (some ⟨p.g,265,none⟩)) rfl (by kernel_rfl) (by kernel_rfl) (by kernel_rfl) (fun _ _ _ h=>h) (.inl ⟨rfl,fun u hu=>by go_simp⟩) hS0 ?_;refine wpAnyH_take (i:=6) (v:=.slice (some ⟨fb,0,none⟩) D.fol.length fc) rfl (by kernel_rfl) (by kernel_rfl) (by kernel_rfl) (fun _ _ _ h=>h) (.inl ⟨rfl,fun u hu=>by go_simp⟩) hS0 ?_
     refine wpAnyH_take (i:=7) (v:=.int .i64 (k:Int)) rfl (by kernel_rfl) (by kernel_rfl) (by kernel_rfl) (fun _ _ _ h=>h) (.inl ⟨rfl,fun u hu=>by go_simp⟩) hS0 ?_;refine wpAnyH_take (i:=8) (v:=.pointer (some ⟨fb,k*32,none⟩)) rfl (by kernel_rfl) (by kernel_rfl) (by kernel_rfl) (fun _ _ _ h=>h) (.inl ⟨rfl,fun u hu=>by go_simp⟩) hS0 ?_;refine wpAnyH_ready (rs:=[9]) (by kernel_rfl) (by simp) ?_;refine AllReadyH.cons rfl (fun K hK=>?_) AllReadyH.nil;go_simp
     go_at_call 108
     refine(rowJoinM V (behindTo D.fol f (fun _=>false) k) (D.fol.getD k fun _=>false) p.g fb (k*32) _ (show BlkF u.drew p.g 129 301 _ from HH.out.1) (HRF.out _ (Wrote.drew HH.out.2))).mono ?_;rintro e u9 ⟨rfl,hb9,hw9⟩;refine hK.out _ _ (by rw [<-HE2.out];exact(xzaq hb9).2.2.2.2.2.2.2.2.2.1) (fun hS1=>?_);have HN:=zd (show BlkF u9 p.g 129 301 (mkF {V with reach:=behindTo D.fol f (fun _=>false) (k+1)})/\Wrote p.g w u9 from⟨by rw [HBS.out];exact hb9,(Wrote.drew HH.out.2).trans hw9⟩);clear hK K hS0 hb9 hw9;refine wpAnyH_done (by kernel_rfl) ?_ _;go_wp2;exact⟨⟨k+1,rfl,hp,HN⟩,by simp [intOf];omega⟩
   ·have hdl:decide ((k:Int)<(D.fol.length:Int))=false:=by simp;omega
    obtain rfl:k=D.fol.length:=by omega
    go_wp2
    go_end0
    exact⟨rfl,HH.out⟩
end
section
open Go.RowKit
attribute [local irreducible] FreeW textFrame
theorem xznf:Maps.Keyed Tryz.prog 9:=Maps.string_keyed Tryz.underlying9
theorem yzcj (s:ByteArray)(h:s.size<=maxLen):keyOf Tryz.prog 9 (.string s)=some (keyS s):=by
 unfold keyS
 simp [keyOf,Tryz.underlying9,mapKey,h]
theorem xzuh {s s':ByteArray}(h:keyS s=keyS s'):s=s':=by
 unfold keyS at h
 injection h with h
 apply ByteArray.ext
 exact Array.toList_inj.1 h
theorem xzui (s:ByteArray):WideAt.IsKeyLit (keyS s):=trivial
theorem zero3D (w:World):(zeroValue 3).run Tryz.prog w=.ok (.int .i64 0) w:=by kernel_rfl
theorem xzlm {L:List (List Int)}{x:List Int}{i:Nat}(h:findL L x=some i):1<=i/\i<L.length/\L.getD i []=x:=by
 unfold findL at h;have h1:=List.find?_some h;have h2:=List.mem_of_find?_eq_some h;simp only [Bool.and_eq_true,decide_eq_true_eq]at h1;exact⟨h1.1,List.mem_range.1 h2,h1.2⟩
theorem xzuj {L:List (List Int)}{x:List Int}(h:findL L x=none)(i:Nat)(h1:1<=i)(hi:i<L.length):L.getD i []≠x:=fun e=>by
 unfold findL at h;rw [List.find?_eq_none]at h;exact h i (List.mem_range.2 hi) (by rw [decide_eq_true h1,decide_eq_true e];rfl)
theorem num_old {K:List (List Int)}{D:DataW Unit}{x:List Int}{i:Nat}(hf:findL K x=some i)
 (h2:∀ s:ByteArray,Maps.has D (keyS s)=(List.range K.length).any fun i=>decide (1<=i)&&decide (textK (K.getD i [])=s))
 (h3:∀ i,1<=i->i<K.length->D.atKey (keyS (textK (K.getD i []))) (.lit (.int .i64 0))=.lit (.int .i64 (i:Nat))):
 Maps.has D (keyS (textK x))=true/\D.atKey (keyS (textK x)) (.lit (.int .i64 0))=.lit (.int .i64 (i:Nat)):=by
 obtain⟨a1,a2,a3⟩:=xzlm hf;refine⟨?_,by rw [<-a3];exact h3 i a1 a2⟩;rw [h2,List.any_eq_true];exact⟨i,List.mem_range.2 a2,by rw [decide_eq_true a1,a3];simp⟩
theorem num_not {N:Nf}(hn:N.sets.length<=2000){K:List (List Int)}{D:DataW Unit}{x:List Int}(hf:findL K x=none)(hK:∀ y∈K,Kept N y)(hx:Kept N x)
 (h2:∀ s:ByteArray,Maps.has D (keyS s)=(List.range K.length).any fun i=>decide (1<=i)&&decide (textK (K.getD i [])=s)):Maps.has D (keyS (textK x))=false:=by
 rw [h2,Bool.eq_false_iff];intro h;obtain⟨i,hi,h4⟩:=List.any_eq_true.1 h;simp only [Bool.and_eq_true,decide_eq_true_eq]at h4;have hi':=List.mem_range.1 hi
 have hm:K.getD i []∈K:=by rw [List.getD_eq_getElem?_getD,List.getElem?_eq_getElem hi'];exact List.getElem_mem hi'
 exact xzuj hf i h4.1 hi' (yzdu hn (hK _ hm) hx h4.2)
theorem yzdx {W':World}{M:Nat}{K:List (List Int)}{D:DataW Unit}{x:List Int}{W:World}(h1:W.ownsMap Tryz.prog 9 (plainElem Tryz.prog 3) M K.length D)(hK1:1<=K.length)
 (hnot:Maps.has D (keyS (textK x))=false)
 (h2:∀ s:ByteArray,Maps.has D (keyS s)=(List.range K.length).any fun i=>decide (1<=i)&&decide (textK (K.getD i [])=s))
 (h3:∀ i,1<=i->i<K.length->D.atKey (keyS (textK (K.getD i []))) (.lit (.int .i64 0))=.lit (.int .i64 (i:Nat)))
 (h1':W'.ownsMap Tryz.prog 9 (plainElem Tryz.prog 3) M (K.length+1) (D.put (keyS (textK x)) (.lit (.int .i64 (K.length:Nat))))):NumIs W' M (K++[x]):=by
 have hM:=h1.isMap
 have hget:∀ i,i<K.length->(K++[x]).getD i []=K.getD i []:=fun i hi=>by
  rw [List.getD_eq_getElem?_getD,List.getD_eq_getElem?_getD,List.getElem?_append_left hi]
 have hlast:(K++[x]).getD K.length []=x:=by rw [List.getD_eq_getElem?_getD,List.getElem?_append_right (Nat.le_refl _)];simp
 refine⟨_,by rw [List.length_append];exact h1',fun s=>?_,fun i hi1 hi=>?_⟩
 ·have hr:((List.range (K++[x]).length).any fun i=>decide (1<=i)&&decide (textK ((K++[x]).getD i [])=s))=(((List.range K.length).any fun i=>decide (1<=i)&&decide (textK (K.getD i [])=s))||decide (textK x=s)):=by
   rw [List.length_append,List.length_singleton,List.range_succ,List.any_append]
   congr 1
   ·rw [Bool.eq_iff_iff,List.any_eq_true,List.any_eq_true]
    constructor
    ·rintro⟨i,hi,h⟩;refine⟨i,hi,?_⟩;rwa [hget i (List.mem_range.1 hi)]at h
    ·rintro⟨i,hi,h⟩;refine⟨i,hi,?_⟩;rwa [hget i (List.mem_range.1 hi)]
   ·simp only [List.any_cons,List.any_nil,Bool.or_false,hlast,decide_eq_true hK1,Bool.true_and]
  rw [hr]
  by_cases e:textK x=s
  ·subst e
   rw [Maps.has_put_same hM (xzui _)];simp
  ·rw [Maps.has_put_other (fun h=>e (xzuh h).symm),h2,decide_eq_false e,Bool.or_false]
 ·rw [List.length_append,List.length_singleton]at hi
  by_cases e:i=K.length
  ·subst e
   rw [hlast,Maps.atKey_put_same hM (xzui _)]
  ·have hi':i<K.length:=by omega
   rw [hget i hi']
   have hne:keyS (textK (K.getD i []))≠keyS (textK x):=fun h=>by
    have h5:=h2 (textK x);rw [hnot]at h5;have:((List.range K.length).any fun i=>decide (1<=i)&&decide (textK (K.getD i [])=textK x))=true:=List.any_eq_true.2 ⟨i,List.mem_range.2 hi',by rw [decide_eq_true hi1,decide_eq_true (xzuh h)];rfl⟩;rw [this]at h5;cases h5
   rw [Maps.atKey_put_other hne,h3 i hi1 hi']
theorem xzln (f:Nat->Bool):(textR f).size=256:=by
 unfold textR
 show(List.map _ _).toArray.size=256
 simp
set_option maxRecDepth 20000 in
set_option maxHeartbeats 16000000 in
theorem xzzc (p:SP)(ρ:Nat->Nat)(D:SD)(V:MkV)(bs:Nat->Nat)(w:World)(h:SM p ρ D V bs w)(x:List Int)(i:Nat)(hKL:D.K=D.L)(hf:findL D.L x=some i):
 Calls Tryz.prog 89 #[.pointer (some ⟨p.g,0,none⟩),.agg (rowA (setOf x))] w fun e w'=>e=.returned (.int .i64 (i:Nat))/\Below w.heap.size w w':=by
 have F: ¬ False:=fun h=>h
 obtain⟨Dm,n1,n2,n3⟩:=h.mp F;rw [hKL]at n1 n2 n3;obtain⟨W1,hW1⟩:∃ W1,(w.alloc (.cells (rowA (setOf x)) 127))=W1:=⟨_,rfl⟩
 have hs1:W1.heap.size=w.heap.size+1:=by rw [<-hW1];simp
 have hb1:Below w.heap.size w W1:=by rw [<-hW1];exact(Below.refl _ _).alloc (Nat.le_refl _) _
 have hx1:RowAt W1 w.heap.size 0 (setOf x):=by rw [<-hW1];exact BlkF.row (newF w _ _) (xzbm _)
 have HTX:=zd (xzjb w.heap.size 0 (setOf x) W1 hx1);have hkey:=yzcj (textK x) (by unfold textK;rw [xzln];unfold maxLen;decide)
 have HMP:=zd (fun(u:World) (hu:Below w.heap.size w u)=>(show u.ownsMap Tryz.prog 9 (plainElem Tryz.prog 3) p.M D.L.length Dm by
  have hm:p.M<w.heap.size:=n1.lt;unfold World.ownsMap at n1 ⊢;obtain⟨es,clock,hbk,h3⟩:=n1
  exact⟨es,clock,(hu.block p.M hm).trans hbk,h3⟩))
 obtain⟨k2,k3⟩:=num_old hf n2 n3;have HC:=zd (fun(u:World) (hu:Below w.heap.size w u)=>(h.step hu).cells.2.2.2.2.2.2.2.2.2.2.2.2);have HB:=zd (And.intro hb1 hx1);clear h hb1 hx1 n1 n2 n3
 go_enter Tryz.func89,Tryz.ntmps89
 go_wp2_with fail
 go_at_call 109
 refine HTX.out.mono ?_;rintro e u ⟨rfl,hbu⟩;have HU:=zd (HB.out.1.trans (hbu.mono HB.out.1.size));have c268:=HC.out u HU.out;clear hbu
 go_wp2_with(first
  |(at_lookup;refine wpList_lookup_own_ok_int _ rfl _ _ 124 rfl 9 3 .i64 xznf Tryz.underlying124 Tryz.underlying3 (zero3D _) p.M D.L.length _ rfl (HMP.out _ HU.out) _ _ rfl hkey ?_;rw [k2];intro c hat hwc))
 go_ret
 have hc:c=(i:Nat):=by
  rw [k3]at hat
  simpa using hat.symm
 exact⟨by rw [hc];rfl,HU.out⟩
def growD (p:SP)(D:SD)(x:List Int):SD:={D with L:=D.L++[x],K:=D.K++[x],nxt:=D.nxt++[List.replicate p.C (-1)],T:=D.T++[tagTo p.N (setOf x) p.N.rules.length]}
set_option maxRecDepth 20000 in
set_option maxHeartbeats 16000000 in
theorem xzzd (p:SP)(ρ:Nat->Nat)(D:SD)(V:MkV)(bs:Nat->Nat)(w:World)(h:SM p ρ D V bs w)(x:List Int)(hKL:D.K=D.L)(hf:findL D.L x=none)(hmi:MayIs p.N)(hL1:1<=D.L.length)(hk:∀ y∈D.L,Kept p.N y)(hx:Kept p.N x)(hC:p.C<=256)(hn:D.L.length<=1000/\D.nxt.length=D.L.length/\D.T.length=D.L.length):
 Calls Tryz.prog 89 #[.pointer (some ⟨p.g,0,none⟩),.agg (rowA (setOf x))] w fun e w'=>e=.returned (.int .i64 (D.L.length:Nat))/\∃ ρ' V' bs',SM p ρ' (growD p D x) V' bs' w'/\V'.reach=V.reach/\
  w.heap.size<=w'.heap.size/\(∀ k,k<w.heap.size->ρ' k=ρ k)/\(∀ k,k<w.heap.size->ρ k=0->w'.heap[k]? =w.heap[k]?)/\w'.ownsRow p.B 26 1 V.next D.nxt.length (hdrs bs p.C D.nxt.length)/\(∀ i,i<D.nxt.length->bs' i=bs i):=by
 have F: ¬ False:=fun h=>h
 obtain⟨Dm,n1,n2,n3⟩:=h.mp F;rw [hKL]at n1 n2 n3;obtain⟨W1,hW1⟩:∃ W1,(w.alloc (.cells (rowA (setOf x)) 127))=W1:=⟨_,rfl⟩
 have hs1:W1.heap.size=w.heap.size+1:=by rw [<-hW1];simp
 have hb1:Below w.heap.size w W1:=by rw [<-hW1];exact(Below.refl _ _).alloc (Nat.le_refl _) _
 have hx1:RowAt W1 w.heap.size 0 (setOf x):=by rw [<-hW1];exact BlkF.row (newF w _ _) (xzbm _)
 have HTX:=zd (xzjb w.heap.size 0 (setOf x) W1 hx1);have hkey:=yzcj (textK x) (by unfold textK;rw [xzln];unfold maxLen;decide)
 have HMP:=zd (fun(u:World) (hu:Below w.heap.size w u)=>(show u.ownsMap Tryz.prog 9 (plainElem Tryz.prog 3) p.M D.L.length Dm by
  have hm:p.M<w.heap.size:=n1.lt;unfold World.ownsMap at n1 ⊢;obtain⟨es,clock,hbk,h3⟩:=n1
  exact⟨es,clock,(hu.block p.M hm).trans hbk,h3⟩))
 have hnot:=num_not (by have:=hmi.small;omega) hf hk hx n2;have HN:=zd (fun(W':World) (h':W'.ownsMap Tryz.prog 9 (plainElem Tryz.prog 3) p.M (D.L.length+1) (Dm.put (keyS (textK x)) (.lit (.int .i64 (D.L.length:Nat)))))=>yzdx n1 hL1 hnot n2 n3 h');have HSM:=zd (And.intro h (And.intro hmi (And.intro hC (And.intro hn hKL))));have HB:=zd (And.intro hb1 hx1);obtain⟨As,cs,es,hcs⟩:=(h.st F).form;rw [List.length_map]at es;have HES:=zd es;clear h hb1 hx1 n1 n2 n3 hmi hk hx hf hcs es
 go_enter Tryz.func89,Tryz.ntmps89
 go_wp2_with fail
 go_at_call 109
 refine HTX.out.mono ?_;rintro e u ⟨rfl,hbu⟩;have HU:=zd (And.intro (HB.out.1.trans (hbu.mono HB.out.1.size)) (HB.out.2.step hbu));have hcl:=(HSM.out.1.step HU.out.1).cells;obtain⟨_,_,_,_,_,_,_,_,_,_,_,c267,c268⟩:=hcl;rw [HES.out]at c267;clear hbu
 go_wp2_with(first
  |(at_lookup;refine wpList_lookup_own_ok_int _ rfl _ _ 124 rfl 9 3 .i64 xznf Tryz.underlying124 Tryz.underlying3 (zero3D _) p.M D.L.length _ rfl (HMP.out _ HU.out.1) _ _ rfl hkey ?_;rw [hnot];intro c hat hwc)
  |(at_mapUpdate;refine wpList_mapUpdate_own _ rfl _ _ _ 124 rfl 9 3 xznf Tryz.underlying124 _ p.M D.L.length _ rfl (HMP.out _ HU.out.1) (by unfold maxLen;have:=HSM.out.2.2.2.1.1;omega) _ _ _ rfl rfl hkey _ [] (plainElem_int Tryz.underlying3 (by have:=HSM.out.2.2.2.1.1;simp [Lit.wf,IntKind.min,IntKind.max,IntKind.signed,IntKind.bits];omega)) ?_;intro w1 hown1 hgrow1))
 have hM:p.M<w.heap.size:=(HSM.out.1.mp (fun h=>h)).lt;have hs0:=(HSM.out.1.role (some w.heap.size) 0 (fun k e=>.inr (by injection e;omega))).step HU.out.1
 have hk0:∀ k,k<w.heap.size->(fun k=>if some w.heap.size=some k then 0 else ρ k) k=ρ k:=fun k hk=>by
  have: ¬ some w.heap.size=some k:=fun e=>by injection e;omega
  simp only [if_neg this]
 have hz0:(fun k=>if some w.heap.size=some k then 0 else ρ k) w.heap.size=0:=by simp
 generalize(fun k=>if some w.heap.size=some k then 0 else ρ k)=ρ0 at*
 have m2:=(hs0.tn (r':=fun k=>k=2) (fun _ h=>h.elim) (Tn.grown hgrow1) (fun k e=>by
  obtain rfl:p.M=k:=Option.some.inj e
  exact⟨hs0.low.2.2,.inl hs0.ro.2.1⟩)).newMap (HN.out w1 hown1)
 have hx1:RowAt w1 w.heap.size 0 (setOf x):=HU.out.2.heap (hgrow1.block _ (World.block_lt_of_cell? u ⟨w.heap.size,0+0,none⟩ (HU.out.2 0 (by decide))) (fun e=>by injection e;omega))
 have hf1:∀ k,k<w.heap.size->ρ k=0->w1.heap[k]? =w.heap[k]? :=fun k hk h0=>(hgrow1.block k (by have:=HU.out.1.size;omega) (fun e=>by
  injection e with e
  have:=HSM.out.1.ro.2.1
  rw [<-e,h0]at this;cases this)).trans (HU.out.1.block k hk)
 have HM2:=zd (And.intro m2 (And.intro hx1 (And.intro hf1 (And.intro hk0 (And.intro hz0 (show w.heap.size<=w1.heap.size by have:=hgrow1.size;have:=HU.out.1.size;omega))))));clear hs0 m2 hx1 hf1 hk0 hz0 hown1 hgrow1 c267 c268 hwc hat;refine wp_region_held_drew (S:=fun u'=>RowAt u' w.heap.size 0 (setOf x)) (by kernel_rfl) (HM2.out.2.1.heap rfl) ?_;intro hS0;refine wpAnyH_take (i:=0) (v:=.pointer (some ⟨p.g,0,none⟩)) rfl (by kernel_rfl) (by kernel_rfl) (by kernel_rfl) (fun _ _ _ h=>h) (.inl ⟨rfl,fun u hu=>by go_simp⟩) hS0 ?_;refine wpAnyH_take (i:=1) (v:=.agg (rowA (setOf x))) rfl (by kernel_rfl) (by kernel_rfl) (by kernel_rfl) (fun _ _ _ h=>h) (.inl ⟨rfl,fun u hu=>xzdb 127 (.tmp 3) _ rfl rfl (loadRw hu)⟩) hS0 ?_;refine wpAnyH_take (i:=2) (v:=.pointer (some ⟨p.g,0,none⟩)) rfl (by kernel_rfl) (by kernel_rfl) (by kernel_rfl) (fun _ _ _ h=>h) (.inl ⟨rfl,fun u hu=>by go_simp⟩) hS0 ?_;refine wpAnyH_take (i:=3) (v:=.agg (rowA (setOf x))) rfl (by kernel_rfl) (by kernel_rfl) (by kernel_rfl) (fun _ _ _ h=>h) (.inl ⟨rfl,fun u hu=>xzdb 127 (.tmp 3) _ rfl rfl (loadRw hu)⟩) hS0 ?_;have hd:=HM2.out.1.step (Below.refl _ _).drew;have HTG:=zd (xzzb p ρ0 _ V bs _ hd HSM.out.2.1 (setOf x));refine wpAnyH_ready (rs:=[4]) (by kernel_rfl) (by simp) ?_;refine AllReadyH.cons rfl (fun K hK=>?_) AllReadyH.nil;go_simp
 go_at_call 110
 refine HTG.out.mono ?_;rintro e u2 ⟨rfl,hb2⟩;refine hK.out _ _ (hS0.step hb2) (fun hS1=>?_);have HAD:=zd (xzpo p ρ0 _ V bs u2 (hd.step hb2) x (tagTo p.N (setOf x) p.N.rules.length) HSM.out.2.2.1 (by have:=HSM.out.2.2.2.1;show D.L.length<=_/\D.nxt.length<=_/\D.T.length<=_;omega));have HF2:=zd (show(∀ k,k<w.heap.size->ρ k=0->u2.heap[k]? =w.heap[k]?)/\w.heap.size<u2.heap.size from⟨fun k hk h0=>(hb2.block k (by have:=HM2.out.2.2.2.2.2;exact Nat.lt_of_lt_of_le hk this)).trans (HM2.out.2.2.1 k hk h0),World.block_lt_of_cell? u2 ⟨w.heap.size,0+0,none⟩ (hS1 0 (by decide))⟩);clear hK K hb2 hd HTG;refine wpAnyH_ready (rs:=[5]) (by kernel_rfl) (by simp) ?_;refine AllReadyH.cons rfl (fun K hK=>?_) AllReadyH.nil;go_simp
 go_at_call 86
 refine HAD.out.mono ?_;rintro e u3 ⟨rfl,ρ3,V3,bs3,h3,h4,h5,h6,h7,h8⟩;refine hK.out _ _ (hS1.heap (h7 _ HF2.out.2 HM2.out.2.2.2.2.1)) (fun hS2=>?_)
 have HE:=zd (show SM p ρ3 (growD p D x) V3 bs3 u3/\V3.reach=V.reach/\w.heap.size<=u3.heap.size/\(∀ k,k<w.heap.size->ρ3 k=ρ k)/\(∀ k,k<w.heap.size->ρ k=0->u3.heap[k]? =w.heap[k]?)/\u3.ownsRow p.B 26 1 V.next D.nxt.length (hdrs bs p.C D.nxt.length)/\(∀ i,i<D.nxt.length->bs3 i=bs i)from
  ⟨by unfold growD;rw [HSM.out.2.2.2.2];exact h3,h4,by have:=HF2.out.2;omega,fun k hk=>(h6 k (by have:=HF2.out.2;omega)).trans (HM2.out.2.2.2.1 k hk),fun k hk h0=>(h7 k (by have:=HF2.out.2;omega) ((HM2.out.2.2.2.1 k hk).trans h0)).trans (HF2.out.1 k hk h0),h8⟩)
 clear hK K h3 h4 h5 h6 h7 h8 HAD hS0 hS1 hS2;refine wpAnyH_done (by kernel_rfl) ?_ _;go_wp2;go_ret;exact⟨rfl,_,_,_,HE.out.1,HE.out.2⟩
end
section
open Go.RowKit
theorem xzjd (fol:List (Nat->Bool))(f r:Nat->Bool)(q:Nat):∀ n,behindTo fol f r n q=(r q||(List.range n).any fun p=>f p&&(fol.getD p fun _=>false) q)
 |0=>by simp [behindTo]
 |n+1=>by
  rw [List.range_succ,List.any_append,<-Bool.or_assoc,<-xzjd fol f r q n];simp only [behindTo,List.any_cons,List.any_nil,Bool.or_false]
  cases h:f n
  ·simp
  ·simp [sOr]
theorem xzlo (N:Nf)(hin:∀ p∈N.first,0<=p)(q:Nat):∀ k,k<=N.first.length->firstTo N k q=hasI (N.first.take k) q
 |0,_=>by simp [firstTo,hasI]
 |k+1,h=>by
  have hk:k<N.first.length:=h;obtain⟨x,hx⟩:=Int.eq_ofNat_of_zero_le (hin _ (List.getElem_mem hk));rw [xzpj _ _ hk,<-xzlo N hin q k (by omega)]
  have hg:N.first.getD k 0=(x:Int):=by rw [List.getD_eq_getElem?_getD,List.getElem?_eq_getElem hk];exact hx
  simp only [firstTo,plus,hg,hx]
  congr 1
  rw [Bool.eq_iff_iff];simp only [beq_iff_eq,decide_eq_true_eq];omega
theorem xzuk (N:Nf)(hmi:MayIs N)(x:List Int)(hx:∀ p∈x,0<=p/\p<(N.sets.length:Int))(q:Nat):((List.range N.follow.length).any fun p=>setOf x p&&((N.follow.map setOf).getD p fun _=>false) q)=markF N x q:=by
 rw [Bool.eq_iff_iff,List.any_eq_true];unfold markF;rw [List.any_eq_true]
 constructor
 ·rintro⟨p,hp,h⟩
  rw [Bool.and_eq_true]at h;have hp':=List.mem_range.1 hp;refine⟨(p:Int),hasI_mem.1 h.1,?_⟩
  have e:(N.follow.map setOf).getD p (fun _=>false)=setOf (N.followAt (p:Int)):=by
   unfold Nf.followAt;rw [List.getD_eq_getElem?_getD,List.getElem?_map,List.getElem?_eq_getElem hp',Int.toNat_natCast,List.getD_eq_getElem?_getD,List.getElem?_eq_getElem hp'];rfl
  rw [e]at h;exact h.2
 ·rintro⟨p,hp,h⟩
  obtain⟨pn,rfl⟩:=Int.eq_ofNat_of_zero_le (hx p hp).1
  have hlt:pn<N.follow.length:=by have:=(hx _ hp).2;rw [hmi.follow];omega
  refine⟨pn,List.mem_range.2 hlt,?_⟩
  have e:(N.follow.map setOf).getD pn (fun _=>false)=setOf (N.followAt (pn:Int)):=by
   unfold Nf.followAt;rw [List.getD_eq_getElem?_getD,List.getElem?_map,List.getElem?_eq_getElem hlt,Int.toNat_natCast,List.getD_eq_getElem?_getD,List.getElem?_eq_getElem hlt];rfl
  rw [e,Bool.and_eq_true];exact⟨hasI_mem.2 hp,h⟩
theorem xzze (n:Nat)(f:Nat->Bool)(N:Nf)(b q:Nat):hasI (keepTo n f N b) q=(decide (q<n)&&(f q&&N.setAt q b)):=by
 rw [Bool.eq_iff_iff,hasI_mem];unfold keepTo
 constructor
 ·intro h
  obtain⟨q',hq,e⟩:=List.mem_map.1 h
  have:q'=q:=by omega
  subst this;have:=List.mem_filter.1 hq;rw [decide_eq_true (List.mem_range.1 this.1),this.2];rfl
 ·intro h
  simp only [Bool.and_eq_true,decide_eq_true_eq]at h;exact List.mem_map.2 ⟨q,List.mem_filter.2 ⟨List.mem_range.2 h.1,by simp [h.2]⟩,rfl⟩
def reachOf (N:Nf)(L:List (List Int))(at':Nat):Nat->Bool:=behindTo (N.follow.map setOf) (setOf (L.getD at' [])) (if at'=0 then firstTo N N.first.length else fun _=>false) (N.follow.map setOf).length
theorem yzdy (N:Nf)(hmi:MayIs N)(L:List (List Int))(at' b:Nat)(hx:∀ p∈L.getD at' [],0<=p/\p<(N.sets.length:Int))(q:Nat):
 sAnd (reachOf N L at') (takesTo N b N.sets.length) q=setOf (stepX N L at' b) q:=by
 unfold sAnd reachOf stepX;unfold setOf at*
 show(_&&takesTo N b N.sets.length q)=hasI _ q
 rw [xzze];rw [show((N.follow.map fun(x:List Int) (p:Nat)=>hasI x p).length)=N.follow.length by simp];rw [xzjd];have hm:=xzuk N hmi (L.getD at' []) hx q;unfold setOf at hm;rw [hm];unfold marksS marks0 takesTo
 by_cases h0:at'=0
 ·rw [if_pos h0,decide_eq_true h0,xzlo N (fun p hp=>(hmi.firsts.1 p hp).1) q _ (Nat.le_refl _),List.take_length]
  cases hasI N.first q<;>cases markF N (L.getD at' []) q<;>cases decide (q<N.sets.length)<;>cases N.setAt (q:Int) b<;>rfl
 ·rw [if_neg h0,decide_eq_false h0]
  cases markF N (L.getD at' []) q<;>cases decide (q<N.sets.length)<;>cases N.setAt (q:Int) b<;>rfl
theorem eqItemsW (d:Nat)(xs ys:Array Value)(F G:Nat->Nat)(w:World):∀ js:List Nat,(∀ j∈js,xs[j]? =some (.int .u64 (F j))/\ys[j]? =some (.int .u64 (G j)))->
 (Op.eqItems (d+1) 46 1 xs ys js).run Tryz.prog w=.ok (js.all fun j=>decide (F j=G j)) w
 |[],_=>by simp [Op.eqItems]
 |j::js,h=>by
  have h5:=run_equalIn_int (P:=Tryz.prog) w d 46 .u64 .u64 (F j) (G j) Tryz.underlying46
  have ih:=eqItemsW d xs ys F G w js fun k hk=>h k (by simp [hk])
  have h1:=part59 (off:=j*1) (by rw [Nat.mul_one];exact(h j (by simp)).1) w;have h2:=part59 (off:=j*1) (by rw [Nat.mul_one];exact(h j (by simp)).2) w;simp only [Op.eqItems,Sem.run_bind,h1,h2,h5,Result.andThen_ok]
  by_cases e:F j=G j
  ·simp [e,ih]
  ·have e2:(((F j:Nat):Int)==((G j:Nat):Int))=false:=by simp;omega
   simp [e,e2]
theorem xzng {d:Nat}{xs ys:Array Value}{fs:List Field}{ta o0:Nat}(h:fs.map (fun f=>(decide (f.name≠ "_"),f.type,f.offset))=[(true,ta,o0)])
 {w:World} {a b:Value} {r:Bool} (h1:(part ta xs o0).run Tryz.prog w=.ok a w) (h2:(part ta ys o0).run Tryz.prog w=.ok b w) (h3:(Op.equalIn d ta a b).run Tryz.prog w=.ok r w):
 (Op.eqFields d xs ys fs).run Tryz.prog w=.ok r w:=by
 rcases fs with _|⟨f0,_|⟨f1,fs⟩⟩
 ·simp at h
 ·simp only [List.map_cons,List.map_nil,List.cons.injEq,Prod.mk.injEq,and_true]at h
  obtain⟨g1,g2,g3⟩:=h;have g1':f0.name≠ "_" :=of_decide_eq_true g1;simp only [Op.eqFields,if_pos g1',g2,g3,Sem.run_bind,h1,h2,h3,Result.andThen_ok]
  cases r<;>simp
 ·simp at h
theorem partRw (f:Nat->Bool)(w:World):(part 125 (rowA f) 0).run Tryz.prog w=.ok (.agg (rowA f)) w:=by
 kernel_rfl
def emptyW (f:Nat->Bool):Bool:=(List.range 32).all fun k=>decide (wd f k=wd (fun _=>false) k)
theorem yzck (f:Nat->Bool)(w:World):(binOp .eql 127 (.agg (rowA f)) (.agg (rowA fun _=>false))).run Tryz.prog w=.ok (.bool (emptyW f)) w:=by
 have h:(Op.equalIn 10000 127 (.agg (rowA f)) (.agg (rowA fun _=>false))).run Tryz.prog w=.ok (emptyW f) w:=by
  rw [run_equalIn_struct (P:=Tryz.prog) w 9999 127 _ _ (by kernel_rfl) (by kernel_rfl)];obtain⟨i,hi⟩:∃ i,Tryz.prog.info? 46=some i:=Option.isSome_iff_exists.1 (by kernel_rfl)
  have hc:Tryz.prog.cellsOf 46=1:=by kernel_rfl
  have harr:=run_equalIn_array (P:=Tryz.prog) w 9998 (rowA f) (rowA fun _=>false) Tryz.underlying125 hi;rw [hc,eqItemsW 9997 (rowA f) (rowA fun _=>false) (wd f) (wd fun _=>false) w (List.range 32) (fun j hj=>⟨xzfe f (List.mem_range.1 hj),xzfe _ (List.mem_range.1 hj)⟩)]at harr;exact xzng (by kernel_rfl) (partRw f w) (partRw _ w) harr
 rw [run_eql_struct,h];rfl
theorem xzlp (N:Nf)(hn:N.sets.length<=2000)(x:List Int)(hx:Kept N x):emptyW (setOf x)=decide (x=[]):=by
 rw [Bool.eq_iff_iff,decide_eq_true_eq];unfold emptyW;rw [List.all_eq_true]
 constructor
 ·intro h
  rcases hx with e|⟨f,b,e⟩
  ·exact e
  ·cases hxx:x with
   |nil=>rfl
   |cons a r=>
    exfalso
    have hm:a∈x:=by rw [hxx];simp
    rw [e]at hm;have hin:=yzci a hm;obtain⟨p,rfl⟩:=Int.eq_ofNat_of_zero_le hin.1;have h1:=h (p / 64) (List.mem_range.2 (by omega));simp only [decide_eq_true_eq]at h1;have h2:=xzqu h1 (j:=p%64) (by omega);rw [show 64*(p / 64)+p%64=p by omega]at h2;have h3:setOf x p=true:=hasI_mem.2 (by rw [e];exact hm);rw [h3]at h2;cases h2
 ·rintro rfl k _
  simp only [decide_eq_true_eq]
  exact xzbh fun j _=>rfl
end
section
open Go.RowKit
theorem xzaz {ops:Array Oper}{rest:List Oper}{o:Oper}{a:Act}{w:World}{Q:Exit->Act->World->Prop}(hg:o.guard=none)(t:TypeId)(parts:Array (Nat×Operand))(ho:o.op=.build t parts){cells:Array Value}
 (hc:Tryz.prog.built t (parts.map fun(i,x)=>(i,a.eval x)).toList=some cells)(h:wpList Tryz.prog ops Q rest (a.put o.dst (.agg cells)) w):wpList Tryz.prog ops Q (o::rest) a w:=
 wpList_plain hg fun _ hK=>wp_build t parts ho (by rw [hc];rfl) (by rw [hc];exact hK _ _ h)
section
variable {w : World} {g : Nat} {t : TypeId} {f : Nat → Nat} {n : Int}
theorem loadVarC (h:BlkIs w g t (clsC f n)):(loadVar 33 ⟨g,0,none⟩).run Tryz.prog w=.ok (.agg (clsC f n)) w:=by
 have:=run_loadVar_mid (P:=Tryz.prog) w g 0 33 (clsC f n).toList _ h.range Tryz.underlying33 rfl (by rw [infoC,Array.length_toList,xzaj])
 rwa [Array.toArray_toList]at this
end
def memC (f:Nat->Nat)(n k:Int)(b:Nat):Bool:=mayB f n&&decide (((f b:Nat):Int)=k)
theorem clsBy {w:World}{g k:Nat}{t:TypeId}{f:Nat->Nat}{n:Int}(h:BlkIs w g t (clsC f n))(hk:k<256):w.cell? ⟨g,k,none⟩=some (.int .u8 (f k)):=(h.cell k).trans (xzlg f n hk)
end
section
open Go.RowKit
theorem yzcl {m:Nat->Bool}{t x:Nat}(h:x∈mems m t):x<t:=by
 unfold mems at h;exact List.mem_range.1 (List.mem_filter.1 h).1
theorem yzdz (m:Nat->Bool){b:Nat}(hb:b<256):sOf (mems m 256) b=m b:=by
 unfold sOf mems;rw [Bool.eq_iff_iff,decide_eq_true_iff,List.mem_filter,List.mem_range];exact⟨fun h=>h.2,fun h=>⟨hb,h⟩⟩
theorem xzhl {w w':World}{g:Nat}{t:TypeId}{cs:Array Value}{row:Option Nat}(h:BlkIs w g t cs)(hg:w.grownBy w' row)(hne:some g≠row):BlkIs w' g t cs:=(hg.block g h.lt hne).trans h
theorem own_low {w:World}{base:Nat}{e:TypeId}{size:Nat}{v:Value}{n:Nat}{xs:List Value}(h:w.ownsRow base e size v n xs){b:Nat}(hb:b<base):some b≠v.ownBlock:=fun e1=>by
 have:=(h.lt b e1.symm).1;omega
theorem xzzf {m:Nat->Bool}{b:Nat}(h:m b=false):mems m (b+1)=mems m b:=xztb (Nat.le_succ b) fun c h1 h2=>by
 obtain rfl:c=b:=by omega
 exact h
theorem xzpq {m:Nat->Bool}{b:Nat}(h:m b=true):mems m (b+1)=mems m b++[b]:=xzov (Nat.le_refl b) (fun c h1 h2=>absurd h2 (by omega)) h
set_option maxRecDepth 100000 in
set_option maxHeartbeats 2000000 in
theorem xzrc (f:Nat->Nat)(n k:Int)(hf:∀ b,b<256->f b<256)(w:World):
 Calls Tryz.prog 106 #[.agg (clsC f n),.int .i64 k] w fun e w'=>e=.returned (setV (memC f n k))/\Below w.heap.size w w':=by
 obtain⟨i0,hi,hz0,hz1,hz2⟩:=info_parts info5;have HM:=zd (xzli f n hf);have HF:=zd hf;have HI:=zd hi;clear hf hi;have hb:=(BlkIs.new w 33 (clsC f n)).alloc (.cells #[.int .u64 0,.int .u64 0,.int .u64 0,.int .u64 0] 48);have hr:=BlkIs.new (w.alloc (.cells (clsC f n) 33)) 48 #[.int .u64 0,.int .u64 0,.int .u64 0,.int .u64 0];rw [World.size_alloc]at hr;have hB:=((Below.refl w.heap.size w).alloc (Nat.le_refl _) (.cells (clsC f n) 33)).alloc (by simp) (.cells #[.int .u64 0,.int .u64 0,.int .u64 0,.int .u64 0] 48);have HB:=zd hb;have HR:=zd hr;have HBe:=zd hB;clear hb hr hB
 cases hm:mayB f n
 ·have hnone:∀ b,b<256->memC f n k b=(fun _=>false) b:=fun b _=>by unfold memC;rw [hm];rfl
  have hset:=xzgu hnone
  have h0:setV (fun _=>false)=.agg #[.int .u64 0,.int .u64 0,.int .u64 0,.int .u64 0]:=by
   have:=xzos;rw [sOf_nil]at this;unfold setV;rw [this 0,this 1,this 2,this 3];rfl
  rw [hset,h0];rw [hm]at HM;clear hset h0 hnone
  go_enter Tryz.func106,Tryz.ntmps106
  go_wp2_with(first
   |refine xzbo rfl (.tmp 2) rfl rfl HB.out ?_
   |(go_at_call 65;refine(HM.out _).mono ?_;rintro e w2 ⟨rfl,hb2⟩;have hbx:=HR.out.step hb2;obtain⟨c0,c1,c2,c3,f0,f1,f2,f3⟩:=hbx.four))
  have hB:=HBe.out.trans (hb2.mono HBe.out.size);refine bodyPost_ret (v:=.agg #[.int .u64 0,.int .u64 0,.int .u64 0,.int .u64 0]) (by simp [results,Tryz.results106,go_sem,c0,c1,c2,c3]) rfl ⟨rfl,?_⟩;exact(((hB.setCell (p:=⟨w.heap.size+1,0,none⟩) (Nat.le_succ _) _).setCell (p:=⟨w.heap.size+1,1,none⟩) (Nat.le_succ _) _).setCell (p:=⟨w.heap.size+1,2,none⟩) (Nat.le_succ _) _).setCell (p:=⟨w.heap.size+1,3,none⟩) (Nat.le_succ _) _
 ·have hmem:∀ b,memC f n k b=(((f b:Nat):Int)==k):=fun b=>by unfold memC;rw [hm,Bool.true_and,Bool.eq_iff_iff];simp
  rw [hm]at HM;have HE:=zd hmem;clear hmem
  go_enter Tryz.func106,Tryz.ntmps106
  go_wp2_with(first
   |refine xzbo rfl (.tmp 2) rfl rfl HB.out ?_
   |(go_at_call 65;refine(HM.out _).mono ?_;rintro e w2 ⟨rfl,hb2⟩;have HB2:=zd (And.intro (HB.out.step hb2) (And.intro (HR.out.step hb2) (HBe.out.trans (hb2.mono HBe.out.size))));have HZ2:=zd (Nat.le_trans (Nat.le_of_eq (World.size_alloc _ _).symm) hb2.size);clear hb2 HB HR HBe))
  have hsz:w.heap.size+2<=w2.heap.size:=HB2.out.2.1.lt
  go_loopw [5,11] (fun v i wr=>∃ b:Nat,b<=256/\i=.int .i64 b/\Hid (wr.ownsRow (w.heap.size+2) 5 1 v (mems (memC f n k) b).length ((mems (memC f n k) b).map fun(x:Nat)=>Value.int .u8 (x:Int))/\
   BlkIs wr w.heap.size 33 (clsC f n)/\BlkIs wr (w.heap.size+1) 48 #[.int .u64 0,.int .u64 0,.int .u64 0,.int .u64 0]/\Below w.heap.size w wr/\w.heap.size+2<=wr.heap.size)) (fun _ i _=>256 - (intOf i).toNat)
  case atStart=>
   exact⟨0,by omega,rfl,zd ⟨World.ownsRow_nil _ _ _ _,HB2.out.1,HB2.out.2.1,HB2.out.2.2,hsz⟩⟩
  case round=>
   obtain⟨b,hb,rfl,HH⟩:=hrel
   by_cases hlt:b<256
   ·have hcell:=clsBy HH.out.2.1 hlt
    have hfk:=HF.out b hlt
    have hw:IntKind.i64.wrap ((f b:Nat):Int)=(f b:Nat):=by rw [IntKind.wrap_i64];omega
    have hwb:IntKind.u8.wrap ((b:Nat):Int)=(b:Nat):=by rw [IntKind.wrap_u8];omega
    have hlen:=xznb (memC f n k) b
    cases hkb:memC f n k b
    ·have hd:(((f b:Nat):Int)==k)=false:=by rw [<-HE.out];exact hkb
     go_wp2;exact⟨⟨b+1,by omega,by go_num,by rw [xzzf hkb];exact HH⟩,by simp [intOf];omega⟩
    ·have hd:(((f b:Nat):Int)==k)=true:=by rw [<-HE.out];exact hkb
     have hrow:=HH.out.1;have hws:=HH.out.2.2.2.2;have hi:=HI.out
     go_wp2_with(at_builtin;refine wpList_append_own _ rfl _ _ 71 rfl (w.heap.size+2) 5 i0 (.int .u8 0) 1 1 Tryz.underlying71 hi hz0 hz1 hz2 rfl (by decide) _ _ _ rfl (hrow.alloc _) ⟨wr.heap.size,0,none⟩ 1 1 [.int .u8 (b:Nat)] rfl rfl (cell_one_new _ _ _) (by simp [Value.oneCell']) (by unfold maxLen;omega) (by omega) (by simp;omega) ?_;intro v' w3 hown' hgrow _)
     have hne:=fun g (hg:g<w.heap.size+2)=>own_low hrow hg
     have hb1:=xzhl (HH.out.2.1.alloc _) hgrow (hne _ (by omega));have hb2:=xzhl (HH.out.2.2.1.alloc _) hgrow (hne _ (by omega))
     have hB3:Below w.heap.size w w3:=(HH.out.2.2.2.1.alloc (by omega) _).grown hgrow (by simp;omega) (fun r e=>by
      rcases Nat.lt_or_ge r w.heap.size with h|h
      ·exact absurd e.symm (hne r (by omega))
      ·exact h)
     have hsz3:=hgrow.size;rw [World.size_alloc]at hsz3;refine⟨⟨b+1,by omega,by go_num,?_⟩,by simp [intOf];omega⟩;rw [xzpq hkb,List.length_append,List.map_append];exact zd ⟨hown',hb1,hb2,hB3,by omega⟩
   ·obtain rfl:b=256:=by omega
    obtain⟨hrow,hb1,hb2,hB3,_⟩:=HH.out;obtain⟨A,c,rfl,hbr⟩:=xziz hrow
    have hset:setV (sOf (mems (memC f n k) 256))=setV (memC f n k):=xzgu fun i hi=>yzdz _ hi
    have hl:∀ x∈mems (memC f n k) 256,x<256:=fun x hx=>yzcl hx
    have hlen:=xznb (memC f n k) 256;have HO:=zd (of_any A c (mems (memC f n k) 256) wr hbr hl (by omega));rw [hset]at HO;have H2:=zd hb2;have H4:=zd hB3;clear hrow hbr hb1 hb2 hB3 HH hl hset
    go_wp2_with(first
     |(go_at_call 122;refine HO.out.mono ?_;rintro e w4 ⟨rfl,hb4⟩;have hbx:=H2.out.step hb4;obtain⟨c0,c1,c2,c3,f0,f1,f2,f3⟩:=hbx.four))
    have hB:=H4.out.trans (hb4.mono H4.out.size);refine bodyPost_ret (v:=setV (memC f n k)) (by simp [results,Tryz.results106,go_sem,c0,c1,c2,c3]) rfl ⟨rfl,?_⟩;exact(((hB.setCell (p:=⟨w.heap.size+1,0,none⟩) (Nat.le_succ _) _).setCell (p:=⟨w.heap.size+1,1,none⟩) (Nat.le_succ _) _).setCell (p:=⟨w.heap.size+1,2,none⟩) (Nat.le_succ _) _).setCell (p:=⟨w.heap.size+1,3,none⟩) (Nat.le_succ _) _
set_option maxRecDepth 100000 in
set_option maxHeartbeats 1000000 in
theorem xznh (f:Nat->Nat)(n k:Int)(hf:∀ b,b<256->f b<256)(w:World)(hT:Tab w):
 Calls Tryz.prog 85 #[.agg (clsC f n),.int .i64 k] w fun e w'=>e=.returned (.int .i64 (nextS (memC f n k) 0))/\Below w.heap.size w w':=by
 have HM:=zd (xzrc f n k hf);have HB:=zd (BlkIs.new w 33 (clsC f n));have HBe:=zd ((Below.refl w.heap.size w).alloc (Nat.le_refl _) (.cells (clsC f n) 33));have HT:=zd hT;have HN:=zd (yzdq (memC f n k) 0 (by omega));clear hT hf;generalize memC f n k=m at*
 go_enter Tryz.func85,Tryz.ntmps85
 go_wp2_with(first
  |refine xzbo rfl (.tmp 2) rfl rfl HB.out ?_
  |(go_at_call 106;refine(HM.out _).mono ?_;rintro e w2 ⟨rfl,hb2⟩)
  |(go_at_call 105;refine(HN.out _ (HT.out.step (HBe.out.trans (hb2.mono HBe.out.size)))).mono ?_;rintro e w3 ⟨rfl,hb3⟩))
 go_ret;have hB:=HBe.out.trans (hb2.mono HBe.out.size);exact⟨rfl,hB.trans (hb3.mono hB.size)⟩
end
end Go.Proofs.YtdjpphjpnkfeiaaGreatDoor
