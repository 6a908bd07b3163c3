/-
 WHAT nfa's parts ANSWERS, given what part answers of each Sub: a contract. Condition: at most 2^20 places in all.
-/
import Derived.Test.YtgbljnnmhmlifaaGreatDoorQG15
namespace Go.Proofs.YtgbljnnmhmlifaaGreatDoor
section
open Go.RowKit
attribute [local irreducible] FreeW textFrame
def PartIs (T:Tree):Prop:=∀ (M K:Nat->Bool) (S:Mk) (v:Value) (pb:Nat) (r f e m:Value) (w:World),MkAt M K w pb S r f e m->T.At (hide w M) v->S.Ok->S.sets.length+T.plN<=1048576->(∀ k,M k=true->k<w.heap.size)->(∀ k,K k=true->k<w.heap.size)->
 Calls Tryz.prog 38 #[.pointer (some ⟨pb,0,none⟩),v] w fun x w'=>∃ M' v',x=.returned v'/\Nx M M' w w'/\(∀ k,M' k=true->k<w'.heap.size)/\MkAt M' K w' pb (partP T S).1 r f e m/\PrtV (hide w' (MK M' K)) (partP T S).2 v'
def PrtL (V:World)(ps:List Prt)(xs:List Value):Prop:=xs.length=ps.length*3/\∀ (i:Nat) (h:i<ps.length),∃ v1 v2,xs[i*3]? =some v1/\xs[i*3+1]? =some v2/\xs[i*3+2]? =some (.bool ps[i].empty)/\IntsV V ps[i].first v1/\IntsV V ps[i].ends v2
theorem PrtL.nil (V:World):PrtL V [] []:=⟨rfl,fun i h=>by simp at h⟩
theorem PrtL.sub {V W:World}{ps:List Prt}{xs:List Value}(h:PrtL V ps xs)(hs:Sub V W):PrtL W ps xs:=⟨h.1,fun i hi=>by
 obtain⟨v1,v2,h0,h1,h2,h3,h4⟩:=h.2 i hi
 exact⟨v1,v2,h0,h1,h2,h3.sub hs,h4.sub hs⟩⟩
theorem PrtL.snoc {V:World}{ps:List Prt}{xs:List Value}(h:PrtL V ps xs){p:Prt}{v1 v2:Value}(h1:IntsV V p.first v1)(h2:IntsV V p.ends v2):PrtL V (ps++[p]) (xs++[v1,v2,.bool p.empty]):=by
 refine⟨by simp [h.1];omega,fun i hi=>?_⟩;simp only [List.length_append,List.length_singleton]at hi
 by_cases hil:i<ps.length
 ·obtain⟨a1,a2,k0,k1,k2,k3,k4⟩:=h.2 i hil
  have hx:=h.1;refine⟨a1,a2,?_,?_,?_,?_,?_⟩
  ·rw [List.getElem?_append_left (by omega)];exact k0
  ·rw [List.getElem?_append_left (by omega)];exact k1
  ·rw [List.getElem?_append_left (by omega),List.getElem_append_left hil];exact k2
  ·rw [List.getElem_append_left hil];exact k3
  ·rw [List.getElem_append_left hil];exact k4
 ·obtain rfl:i=ps.length:=by omega
  have hx:=h.1;refine⟨v1,v2,?_,?_,?_,by simpa using h1,by simpa using h2⟩
  ·rw [List.getElem?_append_right (by omega)];simp [hx]
  ·rw [List.getElem?_append_right (by omega)];simp [hx]
  ·rw [List.getElem?_append_right (by omega)];simp [hx]
theorem PrtL.parts {V W:World}{ps:List Prt}{xs:List Value}(h:PrtL V ps xs){B n c:Nat}(hn:n=ps.length)(ho:W.ownsRow 0 79 3 (.slice (some ⟨B,0,none⟩) n c) n xs):PrtsAt V W ps (.slice (some ⟨B,0,none⟩) n c):=by
 subst hn
 have hc:ps.length<=c/\c<=9223372036854775807:=by
  obtain⟨A,c',e,h1⟩:=xzau ho
  injection e with _ _ e
  subst e;exact h1
 refine⟨_,_,rfl,hc,fun _=>⟨B,0,rfl,fun i hi=>?_⟩⟩;obtain⟨v1,v2,h0,h1,h2,h3,h4⟩:=h.2 i hi
 have hcl:=fun j u hu=>ho.cells (g:=B) rfl j u hu
 simp only [Addr.add_lit,Nat.zero_add]at hcl;exact⟨v1,v2,by rw [Nat.zero_add];exact hcl _ _ h0,by rw [Nat.zero_add];exact hcl _ _ h1,by rw [Nat.zero_add];exact hcl _ _ h2,h3,h4⟩
theorem xzia:(Tryz.prog.info? 79).map (fun i=>(i.zero,i.size,i.bytes))=some (some (.agg #[.slice none 0 0,.slice none 0 0,.bool false]),3,56):=by kernel_rfl
theorem xzvt {W:World}{B n c:Nat}{xs:List Value}(ho:W.ownsRow 0 79 3 (.slice (some ⟨B,0,none⟩) n c) n xs)(hn:n<c){g:Nat}{a1 a2 a3:Value}(hg:BlkIs W g 79 #[a1,a2,a3])(h1:a1.oneCell'=true)(h2:a2.oneCell'=true)(h3:a3.oneCell'=true):
 ∃ W',(Builtin.append_ #[107,107] 107 #[.slice (some ⟨B,0,none⟩) n c,.slice (some ⟨g,0,none⟩) 1 1]).run Tryz.prog W=.ok (.slice (some ⟨B,0,none⟩) (n+1) c) W'/\W'.ownsRow 0 79 3 (.slice (some ⟨B,0,none⟩) (n+1) c) (n+1) (xs++[a1,a2,a3])/\W.grownBy W' (some B):=by
 obtain⟨i0,hi0,hz0,hz1,hz2⟩:=info_parts xzia;have hlen:=ho.1
 rcases ho.2 with⟨h,_⟩|⟨g',cap,cur,e,hbg,hgg,hnc,hcm,hcs,htake⟩
 ·cases h
 injection e with e1 _ e2
 injection e1 with e1
 injection e1 with e1
 subst e1 e2
 have hnw:∀ j u,[a1,a2,a3][j]? =some u->W.cell? ((⟨g,0,none⟩:Addr).add j)=some u:=fun j u hu=>by
  rw [Addr.add_lit,Nat.zero_add,hg.cell j];simpa using hu
 have hone:∀ u∈[a1,a2,a3],u.oneCell'=true:=fun u hu=>by
  simp only [List.mem_cons,List.not_mem_nil,or_false]at hu
  rcases hu with rfl|rfl|rfl<;>assumption
 have hr:=run_append_room (P:=Tryz.prog) W 107 107 79 i0 Tryz.underlying107 hi0 B n c cur hgg ⟨g,0,none⟩ 1 1 [a1,a2,a3] (by rw [hz1];rfl) hnw hone (by omega) (by rw [hz1];simp;omega);refine⟨_,hr,⟨by simp [hlen];omega,.inr ⟨B,c,_,rfl,Nat.zero_le _,setRow_heap W B cur _ _ _ hgg,by omega,hcm,?_,?_⟩⟩,⟨rfl,rfl,rfl,by simp,fun k _ hk=>setRow_other W B k _ (fun e=>hk (by rw [e]))⟩⟩
 ·have:n*3<=cur.toList.length:=by rw [Array.length_toList];omega
  simp only [hz1,List.size_toArray,List.length_append,List.length_take,List.length_drop,Array.length_toList,List.length_cons,List.length_nil];omega
 ·rw [hz1,htake]
  show(xs++[a1,a2,a3]++_).take ((n+1)*3)=_
  rw [List.take_left' (by simp [hlen];omega)]
theorem xzvu (n:Nat)(h:n<=1099511627776)(w:World):∃ cur:Array Value,cur.size=n*3/\(Instr.makeSlice 107 (.int .i64 0) (.int .i64 (n:Nat))).run Tryz.prog w=.ok (.slice (some ⟨w.heap.size,0,none⟩) 0 n) (w.alloc (.cells cur 79)):=by
 obtain⟨i0,hi0,hz0,hz1,hz2⟩:=info_parts xzia;have hr:=run_make (P:=Tryz.prog) w 107 79 i0 _ Tryz.underlying107 hi0 hz0 .i64 .i64 0 n (by omega) (by omega) (by rw [hz2];omega) (by omega);simp only [hz1,Int.toNat_natCast]at hr;exact⟨_,size_madeCells _ _ |>.trans (by simp),hr⟩
theorem xzju (t:Tree):∀ (l:List Tree) (S:Mk),partsP (l++[t]) S=((partP t (partsP l S).1).1,(partsP l S).2++[(partP t (partsP l S).1).2])
 |[],S=>by simp [partsP]
 |x::l,S=>by simp only [List.cons_append,partsP,xzju t l]
theorem xzkw:∀ {l:List Tree},okTs l->∀ t∈l,t.okT
 |[],_,t,ht=>by simp at ht
 |x::l,h,t,ht=>by
  unfold okTs at h
  rcases List.mem_cons.1 ht with rfl|ht
  ·exact h.1
  ·exact xzkw h.2 t ht
theorem xzkx:∀ {l:List Tree} (j:Nat),okTs l->okTs (l.take j)
 |[],j,h=>by simpa using h
 |x::l,0,h=>by unfold okTs;trivial
 |x::l,j+1,h=>by
  unfold okTs at h;simp only [List.take_succ_cons];unfold okTs;exact⟨h.1,xzkx j h.2⟩
theorem xzky (t:Tree):∀ l:List Tree,sumN (l++[t])=sumN l+t.plN
 |[]=>by simp [sumN]
 |x::l=>by simp only [List.cons_append,sumN,xzky t l];omega
theorem xzhd:∀ (l:List Tree) (j:Nat),sumN (l.take j)<=sumN l
 |[],j=>by simp
 |x::l,0=>by simp [sumN]
 |x::l,j+1=>by have:=xzhd l j;simp only [List.take_succ_cons,sumN];omega
set_option maxRecDepth 20000 in
set_option maxHeartbeats 16000000 in
theorem xzqs (l:List Tree)(IH:∀ t∈l,PartIs t)(hokT:okTs l)(M K:Nat->Bool)(S:Mk)(A:Option Addr)(c:Nat)(pb:Nat)(r f e m:Value)(w:World)(hm:MkAt M K w pb S r f e m)
 (hat:l≠[]->∃ b o,A=some ⟨b,o,none⟩/\∀ (i:Nat) (h:i<l.length),∃ cs:List Value,Tree.At (hide w M) l[i] (.agg cs.toArray)/\cs.length=8/\(hide w M).rangeAt b (o+i*8) cs)
 (hS:S.Ok)(hn:S.sets.length+sumN l<=1048576)(hll:l.length<=1048576)(hM:∀ k,M k=true->k<w.heap.size)(hK:∀ k,K k=true->k<w.heap.size):
 Calls Tryz.prog 68 #[.pointer (some ⟨pb,0,none⟩),.slice A l.length c] w fun x w'=>∃ M' v',x=.returned v'/\Nx M M' w w'/\(∀ k,M' k=true->k<w'.heap.size)/\MkAt M' K w' pb (partsP l S).1 r f e m/\PrtsAt (hide w' (MK M' K)) (hide w' M') (partsP l S).2 v':=by
 obtain⟨cur,hcs,hmk⟩:=xzvu l.length (by omega) w;have hb1:Below w.heap.size w (w.alloc (.cells cur 79)):=(Below.refl _ _).alloc (Nat.le_refl _) _
 have hMf:∀ k,w.heap.size<=k->M k=false:=fun k hk=>by
  rw [Bool.eq_false_iff];intro e;have:=hM k e;omega
 have ho:(w.alloc (.cells cur 79)).ownsRow 0 79 3 (.slice (some ⟨w.heap.size,0,none⟩) 0 l.length) 0 []:=World.ownsRow_made w cur l.length (Nat.zero_le _) (by unfold maxLen;omega) hcs;have H0:=zd (show MkAt M (Kor K w.heap.size) (w.alloc (.cells cur 79)) pb S r f e m/\Nx M M w (w.alloc (.cells cur 79))/\_ from⟨hm.new hb1 (Nat.le_refl _),Nx.below hb1,ho⟩);have HAT:=zd hat;have HMM:=zd (And.intro hM (And.intro hK hMf));have HIH:=zd IH;have HOK:=zd hokT;have HS:=zd hS;have HPO:=zd (fun j=>partsP_ok (l.take j) S (xzkx j hokT) hS);have HSN:=zd (fun(j:Nat) (h:j<l.length)=>(show partsP (l.take (j+1)) S=((partP l[j] (partsP (l.take j) S).1).1,(partsP (l.take j) S).2++[(partP l[j] (partsP (l.take j) S).1).2])by rw [List.take_succ_eq_append_getElem h];exact xzju l[j] (l.take j) S))
 have HNN:=zd (fun(j:Nat) (h:j<l.length)=>(show S.sets.length+sumN (l.take j)+(l[j]).plN<=1048576 by
  have h1:=xzhd l (j+1);rw [List.take_succ_eq_append_getElem h,xzky]at h1
  omega))
 clear hat hM hK hMf IH hokT hS hm ho hb1 hcs
 go_enter Tryz.func68,Tryz.ntmps68
 go_wp2
 go_loopw [5,13] (fun s i wr=>∃ (j:Nat) (M1:Nat->Bool),s=.slice (some ⟨w.heap.size,0,none⟩) j l.length/\i=.int .i64 j/\j<=l.length/\Hid (∃ xs,MkAt M1 (Kor K w.heap.size) wr pb (partsP (l.take j) S).1 r f e m/\Nx M M1 w wr/\(∀ k,M1 k=true->k<wr.heap.size)/\M1 w.heap.size=false/\
  wr.ownsRow 0 79 3 (.slice (some ⟨w.heap.size,0,none⟩) j l.length) j xs/\PrtL (hide wr (MK M1 (Kor K w.heap.size))) (partsP (l.take j) S).2 xs)) (fun _ i _=>l.length - (intOf i).toNat)
 case atStart=>exact⟨0,M,rfl,rfl,Nat.zero_le _,zd ⟨[],H0.out.1,H0.out.2.1,fun k hk=>Nat.lt_of_lt_of_le (HMM.out.1 k hk) (by simp),HMM.out.2.2 _ (Nat.le_refl _),H0.out.2.2,PrtL.nil _⟩⟩
 case round=>
  obtain⟨j,M1,rfl,rfl,hj,HH⟩:=hrel;clear hmk;obtain⟨xs,g1,g2,g3,g4,g5,g6⟩:=HH.out;clear HH
  by_cases hp:j<l.length
  ·have hk1:IntKind.i64.wrap ((j:Int)+1)=((j+1:Nat):Int):=by rw [IntKind.wrap_i64];omega
   have hdl:decide ((j:Int)<(l.length:Int))=true:=by simp;omega
   obtain⟨b,o,rfl,hg⟩:=HAT.out (by intro e;rw [e]at hp;simp at hp);obtain⟨cs,hcat,hlen,hrow⟩:=hg j hp;obtain⟨A',n',c',rfl⟩:=hcat.eight
   have hrow':wr.rangeAt b (o+j*8) (reL (l[j]).kind (l[j]).set A' n' c' (l[j]).lo (l[j]).hi):=fun i u hu=>xzax _ _ (g2.sub1 _ _ (hrow i u hu))
   obtain⟨r0,r1,r2,r3,r4,r5,r6,r7⟩:=xzai hrow' (Below.refl _ _);have hxb:=BlkIs.new wr 49 (reL (l[j]).kind (l[j]).set A' n' c' (l[j]).lo (l[j]).hi).toArray;have hxw:Below wr.heap.size wr (wr.alloc (.cells (reL (l[j]).kind (l[j]).set A' n' c' (l[j]).lo (l[j]).hi).toArray 49)):=(Below.refl _ _).alloc (Nat.le_refl _) _;obtain⟨W9,hW9⟩:∃ W9,wr.alloc (.cells (reL (l[j]).kind (l[j]).set A' n' c' (l[j]).lo (l[j]).hi).toArray 49)=W9:=⟨_,rfl⟩;rw [hW9]at hxb hxw
   have hcx:=HIH.out _ (List.getElem_mem hp) M1 (Kor K w.heap.size) (partsP (l.take j) S).1 _ pb r f e m W9 (g1.step hxw) ((hcat.sub g2.sub1).sub (xzad _ hxw)) (HPO.out j).1 (by rw [(HPO.out j).2.2.1];exact HNN.out j hp)
    (fun k hk=>Nat.lt_of_lt_of_le (g3 k hk) hxw.size) (xzey (fun k hk=>Nat.lt_of_lt_of_le (HMM.out.2.1 k hk) (Nat.le_trans g2.size hxw.size)) (Nat.lt_of_lt_of_le (World.ownsRow.lt g5 _ rfl).2 hxw.size))
   have hsn:=HSN.out j hp;have hlt:=(World.ownsRow.lt g5 _ rfl).2;have hG:=And.intro g2 (And.intro hxw (And.intro g4 (And.intro (xzac (W':=W9) g5 fun k hk=>hxw.block k (World.ownsRow.lt g5 k hk).2) (g6.sub (xzad _ hxw)))));have HG:=zd hG;simp only [reL]at hW9;unfold reV reL at*;have HC:=zd hcx;have HSS:=zd hsn;clear hcat hg hrow hrow' hlen hcx hsn hG hxw g1 g2 g3 g4 g5 g6;generalize partP l[j] (partsP (l.take j) S).1=TS at*;generalize(l[j]).kind=kx at*;generalize(l[j]).set=mx at*;generalize(l[j]).lo=lx at*;generalize(l[j]).hi=hx at*;obtain⟨x0,x1,x2,x3,x4,x5,x6,x7⟩:=hxb.eight;clear hxb
   go_wp2_with fail
   go_at_call 38
   refine HC.out.mono ?_;rintro x u1 ⟨M2,v2,rfl,hnx,hlt2,hmk2,p1,p2,rfl,hp1,hp2⟩;obtain⟨Y1,y1,rfl,_⟩:=hp1.form;obtain⟨Y2,y2,rfl,_⟩:=hp2.form;have hBW:w.heap.size<W9.heap.size:=(World.ownsRow.lt HG.out.2.2.2.1 _ rfl).2;have hMB:M2 w.heap.size=false:=(hnx.mine _ hBW).trans HG.out.2.2.1;have hbA:Below u1.heap.size u1 (u1.alloc (.cells #[.slice Y1 TS.2.first.length y1,.slice Y2 TS.2.ends.length y2,.bool TS.2.empty] 79)):=(Below.refl _ _).alloc (Nat.le_refl _) _
   have hown:=xzac (W':=u1) HG.out.2.2.2.1 fun k hk=>by
    injection hk with hk
    subst hk;exact hnx.block _ hBW HG.out.2.2.1
   have hownA:=xzac (W':=u1.alloc (.cells #[.slice Y1 TS.2.first.length y1,.slice Y2 TS.2.ends.length y2,.bool TS.2.empty] 79)) hown fun k hk=>hbA.block k (World.ownsRow.lt hown k hk).2
   obtain⟨W5,hrun,hown5,hgr⟩:=xzvt hownA hp (BlkIs.new u1 79 #[.slice Y1 TS.2.first.length y1,.slice Y2 TS.2.ends.length y2,.bool TS.2.empty]) rfl rfl rfl;have hkB:Kor K w.heap.size w.heap.size=true:=xzgw _ _
   have hsub5:Sub (hide u1 (MK M2 (Kor K w.heap.size))) (hide W5 (MK M2 (Kor K w.heap.size))):=(xzad _ hbA).trans (xzbe fun k k1 k2=>⟨k1,hgr.block k k2 (fun e=>by
    injection e with e
    rw [MK_no,e,hkB]at k1
    cases k1.2)⟩)
   have hnx5:Nx M M2 w W5:=by
    have h:=HG.out.1.trans ((Nx.below HG.out.2.1).trans (hnx.trans (Nx.below hbA)));exact⟨hgr.os.trans h.os,hgr.tape.trans h.tape,hgr.output.trans h.output,Nat.le_trans h.size hgr.size,fun k hk hm=>(hgr.block k (Nat.lt_of_lt_of_le hk h.size) (fun e=>by injection e with e;omega)).trans (h.block k hk hm),h.mine⟩
   have HF:=zd (show ∃ xs,MkAt M2 (Kor K w.heap.size) W5 pb (partsP (l.take (j+1)) S).1 r f e m/\Nx M M2 w W5/\(∀ k,M2 k=true->k<W5.heap.size)/\M2 w.heap.size=false/\
    W5.ownsRow 0 79 3 (.slice (some ⟨w.heap.size,0,none⟩) (j+1) l.length) (j+1) xs/\PrtL (hide W5 (MK M2 (Kor K w.heap.size))) (partsP (l.take (j+1)) S).2 xs from by
    rw [HSS.out]
    refine⟨_,(hmk2.step hbA).sub (fun k hk hm=>hgr.block k hk (fun e=>by injection e with e;rw [e,hMB]at hm;cases hm)) (xzbe fun k k1 k2=>⟨k1,hgr.block k k2 (fun e=>by
     injection e with e
     rw [MK_no,e,hkB]at k1
     cases k1.2)⟩),hnx5,fun k hk=>Nat.lt_of_lt_of_le (hlt2 k hk) (Nat.le_trans hbA.size hgr.size),hMB,hown5,PrtL.snoc ((HG.out.2.2.2.2.sub (hnx.sub _)).sub hsub5) (hp1.sub hsub5) (hp2.sub hsub5)⟩)
   clear hnx hlt2 hmk2 hp1 hp2 hbA hown hownA hown5 hgr hsub5 hnx5
   go_wp2_with(refine xzan rfl _ _ 107 107 rfl rfl rfl hrun ?_)
   exact⟨⟨j+1,M2,rfl,rfl,hp,HF⟩,by simp [intOf];omega⟩
  ·have hdl:decide ((j:Int)<(l.length:Int))=false:=by simp;omega
   obtain rfl:j=l.length:=by omega
   rw [List.take_length]at g1 g6
   have HF:=zd (show MkAt M1 K wr pb (partsP l S).1 r f e m/\PrtsAt (hide wr (MK M1 K)) (hide wr M1) (partsP l S).2 (.slice (some ⟨w.heap.size,0,none⟩) l.length l.length)from by
    refine⟨g1.less,?_⟩
    have hlen:(partsP l S).2.length=l.length:=by have:=(HPO.out l.length).2.2.2;rw [List.take_length]at this;exact this
    have ho:(hide wr M1).ownsRow 0 79 3 (.slice (some ⟨w.heap.size,0,none⟩) l.length l.length) l.length xs:=xzac g5 fun k hk=>by
     injection hk with hk
     subst hk;rw [xzgf,g4];simp
    exact PrtL.parts (g6.sub xzea) hlen.symm ho)
   have HE:=zd (And.intro g2 g3);clear g1 g2 g3 g4 g5 g6;go_wp2;go_ret;exact⟨M1,_,rfl,HE.out.1,HE.out.2,HF.out.1,HF.out.2⟩
end
section
open Go.RowKit
attribute [local irreducible] FreeW textFrame
theorem MkAt.read {M K:Nat->Bool}{W:World}{pb:Nat}{S:Mk}{r f e m:Value}(h:MkAt M K W pb S r f e m):∃ A c,W.cell? ⟨pb,0,none⟩=some (.slice A S.sets.length c):=by
 obtain⟨vs,vf,xs,h⟩:=h;obtain⟨A,c,rfl,_⟩:=xzau h.own0;exact⟨A,c,(six h.blk).1⟩
theorem PrtsAt.one {V W:World}{p:Prt}{g:Nat}{p1 p2:Value}(h1:IntsV V p.first p1)(h2:IntsV V p.ends p2)(h:BlkIs W g 79 #[p1,p2,.bool p.empty]):PrtsAt V W [p] (.slice (some ⟨g,0,none⟩) 1 1):=
 ⟨_,_,rfl,⟨by simp,by decide⟩,fun _=>⟨g,0,rfl,fun i hi=>by
  simp only [List.length_singleton]at hi
  obtain rfl:i=0:=by omega
  exact⟨p1,p2,by simpa using h.cell 0,by simpa using h.cell 1,by simpa using h.cell 2,h1,h2⟩⟩⟩
set_option maxRecDepth 20000 in
set_option maxHeartbeats 16000000 in
theorem xzmm (mm:Nat->Bool)(A:Option Addr)(n c:Nat)(lo hi:Int)(hz:copiesI lo hi=0)(pb:Nat)(w:World):
 Calls Tryz.prog 70 #[.pointer (some ⟨pb,0,none⟩),reV 4 mm A n c lo hi] w fun x w'=>x=.returned (.slice none 0 0)/\Below w.heap.size w w':=by
 have hb:Below w.heap.size w (w.alloc (.cells (reL 4 mm A n c lo hi).toArray 49)):=(Below.refl _ _).alloc (Nat.le_refl _) _;have hx:=BlkIs.new w 49 (reL 4 mm A n c lo hi).toArray;have HC:=zd (fun u=>xzhr 4 mm A n c lo hi u);rw [hz]at HC;have HB:=zd hb;obtain⟨d0,d1,d2,d3,d4,d5,d6,d7⟩:=hx.eight;unfold reV reL at*;clear hb hx hz
 go_enter Tryz.func70,Tryz.ntmps70
 go_wp2_with fail
 go_at_call 65
 refine(HC.out _).mono ?_;rintro x u ⟨rfl,hu⟩;have HU:=zd (HB.out.trans (hu.mono HB.out.size));clear hu;go_wp2;go_ret;exact⟨rfl,HU.out⟩
end
section
open Go.RowKit
attribute [local irreducible] FreeW textFrame
theorem xzib {M M' K:Nat->Bool}{w U:World}{pb b:Nat}{S:Mk}{r f e m x1 x2:Value}{p:Prt}(hb:BlkIs U b 79 #[.slice none 0 0,.slice none 0 0,.bool false])(hn:Nx M M' w U)(hw:w.heap.size<=b)(hM:M' b=false)(hlt:∀ k,M' k=true->k<U.heap.size)
 (hmk:MkAt M' (Kor K b) U pb S r f e m)(h1:IntsV (hide U (MK M' (Kor K b))) p.first x1)(h2:IntsV (hide U (MK M' (Kor K b))) p.ends x2)(z:Bool)(hz:z=p.empty):
 (loadVar 79 ⟨b,0,none⟩).run Tryz.prog (((U.setCell ⟨b,0,none⟩ x1).setCell ⟨b,1,none⟩ x2).setCell ⟨b,2,none⟩ (.bool z))=.ok (.agg #[x1,x2,.bool z]) (((U.setCell ⟨b,0,none⟩ x1).setCell ⟨b,1,none⟩ x2).setCell ⟨b,2,none⟩ (.bool z))/\
 ∃ M2 v',Value.agg #[x1,x2,.bool z]=v'/\Nx M M2 w (((U.setCell ⟨b,0,none⟩ x1).setCell ⟨b,1,none⟩ x2).setCell ⟨b,2,none⟩ (.bool z))/\(∀ k,M2 k=true->k<(((U.setCell ⟨b,0,none⟩ x1).setCell ⟨b,1,none⟩ x2).setCell ⟨b,2,none⟩ (.bool z)).heap.size)/\
  MkAt M2 K (((U.setCell ⟨b,0,none⟩ x1).setCell ⟨b,1,none⟩ x2).setCell ⟨b,2,none⟩ (.bool z)) pb S r f e m/\PrtV (hide (((U.setCell ⟨b,0,none⟩ x1).setCell ⟨b,1,none⟩ x2).setCell ⟨b,2,none⟩ (.bool z)) (MK M2 K)) p v':=by
 subst hz;have hk:Kor K b b=true:=xzgw K b;have hs:=(((xzas (M:=M') (W:=U) (i:=0) hk x1).trans (xzas (M:=M') (i:=1) hk x2)).trans (xzas (M:=M') (i:=2) hk (.bool p.empty))).trans xzea;exact⟨xzcs (xzcj hb),M',_,rfl,((hn.far hw).far hw).far hw,fun k hk=>by simpa [World.setCell]using hlt k hk,(((hmk.far hk hM).far hk hM).far hk hM).less,_,_,rfl,h1.sub hs,h2.sub hs⟩
theorem Nx.keeps {M M':Nat->Bool}{W W':World}{k:Nat}(h:Nx M M' W W')(hk:k<W.heap.size)(hm:M k=false):M' k=false:=(h.mine k hk).trans hm
set_option maxRecDepth 20000 in
set_option maxHeartbeats 16000000 in
theorem yzav (ms:Nat->Bool)(lo hi:Int):PartIs (.node 1 ms [] lo hi):=by
 intro M K S v pb r f e m w hm hat hS hn hM hK;obtain⟨A,c,rfl,hc,_⟩:=hat.open
 have hp1:partP (.node 1 ms [] lo hi) S=(placeS S ms,⟨[(S.sets.length:Int)],[(S.sets.length:Int)],false⟩):=by unfold partP;rw [if_pos rfl]
 rw [hp1];obtain⟨w2,hw2⟩:∃ w2,(w.alloc (.cells #[.int .i64 1,.int .u64 (wd ms 0:Nat),.int .u64 (wd ms 1:Nat),.int .u64 (wd ms 2:Nat),.int .u64 (wd ms 3:Nat),.slice A 0 c,.int .i64 lo,.int .i64 hi] 49)).alloc (.cells #[.slice none 0 0,.slice none 0 0,.bool false] 79)=w2:=⟨_,rfl⟩
 have hb2:Below w.heap.size w w2:=by rw [<-hw2];exact((Below.refl _ _).alloc (Nat.le_refl _) _).alloc (by simp) _
 have hs2:w2.heap.size=w.heap.size+2:=by rw [<-hw2];simp
 have hx0:BlkIs w2 w.heap.size 49 #[.int .i64 1,.int .u64 (wd ms 0:Nat),.int .u64 (wd ms 1:Nat),.int .u64 (wd ms 2:Nat),.int .u64 (wd ms 3:Nat),.slice A 0 c,.int .i64 lo,.int .i64 hi]:=by rw [<-hw2];exact(BlkIs.new w _ _).alloc _
 have hx1:BlkIs w2 (w.heap.size+1) 79 #[.slice none 0 0,.slice none 0 0,.bool false]:=by
  rw [<-hw2];have h:=BlkIs.new (w.alloc (.cells #[.int .i64 1,.int .u64 (wd ms 0:Nat),.int .u64 (wd ms 1:Nat),.int .u64 (wd ms 2:Nat),.int .u64 (wd ms 3:Nat),.slice A 0 c,.int .i64 lo,.int .i64 hi] 49)) 79 #[.slice none 0 0,.slice none 0 0,.bool false];rw [World.size_alloc]at h;exact h
 have hMf:∀ k,w.heap.size<=k->M k=false:=fun k hk=>by
  rw [Bool.eq_false_iff];intro e;have:=hM k e;omega
 have hK2:∀ k,Kor K (w.heap.size+1) k=true->k<w2.heap.size:=xzey (fun k hk=>by have:=hK k hk;omega) (by omega)
 have hM2:∀ k,M k=true->k<w2.heap.size:=fun k hk=>by have:=hM k hk;omega
 have hm2:MkAt M (Kor K (w.heap.size+1)) w2 pb S r f e m:=hm.new hb2 (by omega);have HBX:=zd (And.intro hx0 hx1);have HMF:=zd hMf;have HW2:=zd (And.intro hb2 hs2);have HPL:=zd (yzat M (Kor K (w.heap.size+1)) S ms pb r f e m w2 hm2 hS.1 (by omega) hM2 hK2);obtain⟨d0,d1,d2,d3,d4,d5,d6,d7⟩:=hx0.eight;unfold reV reL;clear hb2 hs2 hx0 hx1 hMf hK2 hM2 hm2 hm hat hS hn hM hK hp1
 go_enter Tryz.func38,Tryz.ntmps38
 go_wp2_with fail
 go_at_call 66
 refine HPL.out.mono ?_;rintro x u1 ⟨M1,v1,rfl,hnx,hlt1,hmk,p1,p2,rfl,hp1,hp2⟩;have hb1:=HBX.out.2.nx hnx (HMF.out _ (by omega));have hfin:=xzib (p:=⟨[(S.sets.length:Int)],[(S.sets.length:Int)],false⟩) hb1 ((Nx.below HW2.out.1).trans hnx) (by omega) (hnx.keeps (by have:=HW2.out.2;omega) (HMF.out _ (by omega))) hlt1 hmk hp1 hp2 false rfl;obtain⟨Y1,y1,rfl,_⟩:=hp1.form;obtain⟨Y2,y2,rfl,_⟩:=hp2.form;obtain⟨k0,k1,k2,l0,l1,l2⟩:=three hb1;have HFN:=zd hfin;have hlt:=hb1.lt;clear hfin hb1 hnx hlt1 hmk hp1 hp2 d0 d1 d2 d3 d4 d5 d6 d7;go_wp2;obtain⟨hl,M2,v',hv,h1,h2,h3,h4⟩:=HFN.out;exact⟨rfl,_,xzae rfl rfl hl,M2,_,congrArg Ending.returned hv,h1,h2,h3,h4⟩
set_option maxRecDepth 20000 in
set_option maxHeartbeats 16000000 in
theorem yzaw (ms:Nat->Bool)(lo hi:Int):PartIs (.node 0 ms [] lo hi):=by
 intro M K S v pb r f e m w hm hat hS hn hM hK;obtain⟨A,c,rfl,hc,_⟩:=hat.open
 have hp1:partP (.node 0 ms [] lo hi) S=(S,⟨[],[],true⟩):=by unfold partP;simp
 rw [hp1];obtain⟨w2,hw2⟩:∃ w2,(w.alloc (.cells #[.int .i64 0,.int .u64 (wd ms 0:Nat),.int .u64 (wd ms 1:Nat),.int .u64 (wd ms 2:Nat),.int .u64 (wd ms 3:Nat),.slice A 0 c,.int .i64 lo,.int .i64 hi] 49)).alloc (.cells #[.slice none 0 0,.slice none 0 0,.bool false] 79)=w2:=⟨_,rfl⟩
 have hb2:Below w.heap.size w w2:=by rw [<-hw2];exact((Below.refl _ _).alloc (Nat.le_refl _) _).alloc (by simp) _
 have hs2:w2.heap.size=w.heap.size+2:=by rw [<-hw2];simp
 have hx0:BlkIs w2 w.heap.size 49 #[.int .i64 0,.int .u64 (wd ms 0:Nat),.int .u64 (wd ms 1:Nat),.int .u64 (wd ms 2:Nat),.int .u64 (wd ms 3:Nat),.slice A 0 c,.int .i64 lo,.int .i64 hi]:=by rw [<-hw2];exact(BlkIs.new w _ _).alloc _
 have hx1:BlkIs w2 (w.heap.size+1) 79 #[.slice none 0 0,.slice none 0 0,.bool false]:=by
  rw [<-hw2];have h:=BlkIs.new (w.alloc (.cells #[.int .i64 0,.int .u64 (wd ms 0:Nat),.int .u64 (wd ms 1:Nat),.int .u64 (wd ms 2:Nat),.int .u64 (wd ms 3:Nat),.slice A 0 c,.int .i64 lo,.int .i64 hi] 49)) 79 #[.slice none 0 0,.slice none 0 0,.bool false];rw [World.size_alloc]at h;exact h
 have hMf:∀ k,w.heap.size<=k->M k=false:=fun k hk=>by
  rw [Bool.eq_false_iff];intro e;have:=hM k e;omega
 have hK2:∀ k,Kor K (w.heap.size+1) k=true->k<w2.heap.size:=xzey (fun k hk=>by have:=hK k hk;omega) (by omega)
 have hM2:∀ k,M k=true->k<w2.heap.size:=fun k hk=>by have:=hM k hk;omega
 have hm2:MkAt M (Kor K (w.heap.size+1)) w2 pb S r f e m:=hm.new hb2 (by omega);have HBX:=zd (And.intro hx0 hx1);have HMF:=zd hMf;have HW2:=zd (And.intro hb2 hs2);obtain⟨d0,d1,d2,d3,d4,d5,d6,d7⟩:=hx0.eight;obtain⟨k0,k1,k2,l0,l1,l2⟩:=three hx1;have hlt:=hx1.lt;have HFN:=zd (xzib (p:=⟨[],[],true⟩) (x1:=.slice none 0 0) (x2:=.slice none 0 0) hx1 (Nx.below hb2) (by omega) (hMf _ (by omega)) hM2 hm2 (IntsV.nil _) (IntsV.nil _) true rfl);unfold reV reL;clear hb2 hs2 hx0 hx1 hMf hK2 hM2 hm2 hm hat hS hn hM hK hp1
 go_enter Tryz.func38,Tryz.ntmps38
 go_wp2;obtain⟨hl,M2,v',hv,h1,h2,h3,h4⟩:=HFN.out;exact⟨rfl,_,xzae rfl rfl hl,M2,_,congrArg Ending.returned hv,h1,h2,h3,h4⟩
set_option maxRecDepth 20000 in
set_option maxHeartbeats 16000000 in
theorem yzfq (ms:Nat->Bool)(l:List Tree)(lo hi:Int)(IH:∀ t∈l,PartIs t)(hokT:okTs l)(hll:l.length<=1048576):PartIs (.node 3 ms l lo hi):=by
 intro M K S v pb r f e m w hm hat hS hn hM hK;obtain⟨A,c,rfl,hc,hrows⟩:=hat.open
 have hp1:partP (.node 3 ms l lo hi) S=((partsP l S).1,eitherP ⟨[],[],false⟩ (partsP l S).2):=by unfold partP;simp
 have hnn:S.sets.length+sumN l<=1048576:=by simp only [Tree.plN]at hn;simpa using hn
 obtain⟨ho1,ho2,ho3,ho4⟩:=partsP_ok l S hokT hS;rw [hp1];obtain⟨w2,hw2⟩:∃ w2,(w.alloc (.cells #[.int .i64 3,.int .u64 (wd ms 0:Nat),.int .u64 (wd ms 1:Nat),.int .u64 (wd ms 2:Nat),.int .u64 (wd ms 3:Nat),.slice A l.length c,.int .i64 lo,.int .i64 hi] 49)).alloc (.cells #[.slice none 0 0,.slice none 0 0,.bool false] 79)=w2:=⟨_,rfl⟩
 have hb2:Below w.heap.size w w2:=by rw [<-hw2];exact((Below.refl _ _).alloc (Nat.le_refl _) _).alloc (by simp) _
 have hs2:w2.heap.size=w.heap.size+2:=by rw [<-hw2];simp
 have hx0:BlkIs w2 w.heap.size 49 #[.int .i64 3,.int .u64 (wd ms 0:Nat),.int .u64 (wd ms 1:Nat),.int .u64 (wd ms 2:Nat),.int .u64 (wd ms 3:Nat),.slice A l.length c,.int .i64 lo,.int .i64 hi]:=by rw [<-hw2];exact(BlkIs.new w _ _).alloc _
 have hx1:BlkIs w2 (w.heap.size+1) 79 #[.slice none 0 0,.slice none 0 0,.bool false]:=by
  rw [<-hw2];have h:=BlkIs.new (w.alloc (.cells #[.int .i64 3,.int .u64 (wd ms 0:Nat),.int .u64 (wd ms 1:Nat),.int .u64 (wd ms 2:Nat),.int .u64 (wd ms 3:Nat),.slice A l.length c,.int .i64 lo,.int .i64 hi] 49)) 79 #[.slice none 0 0,.slice none 0 0,.bool false];rw [World.size_alloc]at h;exact h
 have hMf:∀ k,w.heap.size<=k->M k=false:=fun k hk=>by
  rw [Bool.eq_false_iff];intro e;have:=hM k e;omega
 have hK2:∀ k,Kor K (w.heap.size+1) k=true->k<w2.heap.size:=xzey (fun k hk=>by have:=hK k hk;omega) (by omega)
 have hM2:∀ k,M k=true->k<w2.heap.size:=fun k hk=>by have:=hM k hk;omega
 have hm2:MkAt M (Kor K (w.heap.size+1)) w2 pb S r f e m:=hm.new hb2 (by omega);have HBX:=zd (And.intro hx0 hx1);have HMF:=zd hMf;have HW2:=zd (And.intro hb2 hs2)
 have HPA:=zd (xzqs l IH hokT M (Kor K (w.heap.size+1)) S A c pb r f e m w2 hm2 (fun hne=>by
  obtain⟨b,o,e1,_,hg⟩:=hrows hne;refine⟨b,o,e1,fun i hi=>?_⟩;obtain⟨cs,h1,h2,h3⟩:=hg i hi
  exact⟨cs,h1.sub (xzad _ hb2),h2,fun j x hx=>xzad _ hb2 _ _ (h3 j x hx)⟩) hS hnn hll hM2 hK2)
 have HO:=zd (And.intro ho2 (show(partsP l S).1.sets.length<=1048576 by omega));have HK2:=zd hK2;obtain⟨d0,d1,d2,d3,d4,d5,d6,d7⟩:=hx0.eight;unfold reV reL;clear hb2 hs2 hx0 hx1 hMf hK2 hM2 hm2 hm hat hS hn hM hK hp1 hrows IH hokT hnn ho1 ho2 ho3 ho4;generalize partsP l S=PS at*
 go_enter Tryz.func38,Tryz.ntmps38
 go_wp2_with fail
 go_at_call 68
 refine HPA.out.mono ?_;rintro x u1 ⟨M1,v1,rfl,hnx,hlt1,hmk,hps⟩
 have hkk:∀ k,MK M1 (Kor K (w.heap.size+1)) k=true->k<u1.heap.size:=fun k hk=>by
  unfold MK at hk;simp only [Bool.or_eq_true]at hk
  rcases hk with hk|hk
  ·exact hlt1 k hk
  ·exact Nat.lt_of_lt_of_le (HK2.out k hk) hnx.size
 have HEI:=zd (xzvq PS.2 v1 u1 (MK M1 (Kor K (w.heap.size+1))) PS.1.sets.length hkk (hps.sub (fun _ _ h=>h) xzax) HO.out.1 HO.out.2);have HN1:=zd (And.intro hnx (And.intro hlt1 hmk));clear hnx hlt1 hmk hps hkk
 go_wp2_with fail
 go_at_call 69
 refine HEI.out.mono ?_;rintro x u2 ⟨v2,rfl,⟨p1,p2,rfl,hp1,hp2⟩,hb⟩;have hb1:=(HBX.out.2.nx HN1.out.1 (HMF.out _ (by omega))).step hb;have hfin:=xzib hb1 ((Nx.below HW2.out.1).trans (HN1.out.1.trans (Nx.below hb))) (by omega) (HN1.out.1.keeps (by have:=HW2.out.2;omega) (HMF.out _ (by omega))) (fun k hk=>Nat.lt_of_lt_of_le (HN1.out.2.1 k hk) hb.size) (HN1.out.2.2.step hb) hp1 hp2 (eitherP ⟨[],[],false⟩ PS.2).empty rfl;obtain⟨Y1,y1,rfl,_⟩:=hp1.form;obtain⟨Y2,y2,rfl,_⟩:=hp2.form;obtain⟨k0,k1,k2,l0,l1,l2⟩:=three hb1;have HFN:=zd hfin;have hlt:=hb1.lt;clear hfin hb1 hb hp1 hp2 d0 d1 d2 d3 d4 d5 d6 d7;go_wp2;obtain⟨hl,M2,v',hv,h1,h2,h3,h4⟩:=HFN.out;exact⟨rfl,_,xzae rfl rfl hl,M2,_,congrArg Ending.returned hv,h1,h2,h3,h4⟩
end
end Go.Proofs.YtgbljnnmhmlifaaGreatDoor
