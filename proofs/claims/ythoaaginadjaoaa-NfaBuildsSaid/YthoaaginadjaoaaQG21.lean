/-
 WHAT nfa's part ANSWERS of a row, and of what is repeated once at most: contracts. Condition: at most 2^20 places.
-/
import Derived.Test.YthoaaginadjaoaaQG20
namespace Go.Proofs.Ythoaaginadjaoaa
section
open Go.RowKit
attribute [local irreducible] FreeW textFrame
set_option maxRecDepth 20000 in
set_option maxHeartbeats 16000000 in
theorem xzun (ms:Nat->Bool)(l:List Tree)(lo hi:Int)(IH:∀ t∈l,PartIs t)(hokT:okTs l)(hll:l.length<=1048576):PartIs (.node 2 ms l lo hi):=by
 intro M K S v pb r f e m w hm hat hS hn hM hK;obtain⟨A,c,rfl,hc,hrows⟩:=hat.open
 have hp1:partP (.node 2 ms l lo hi) S=(⟨(partsP l S).1.sets,(inRowP l.length 0 (partsP l S).2 (partsP l S).1.follow).1⟩,(inRowP l.length 0 (partsP l S).2 (partsP l S).1.follow).2):=by unfold partP;simp
 have hnn:S.sets.length+sumN l<=1048576:=by simp only [Tree.plN]at hn;simpa using hn
 obtain⟨ho1,ho2,ho3,ho4⟩:=partsP_ok l S hokT hS;rw [hp1];obtain⟨w2,hw2⟩:∃ w2,(w.alloc (.cells #[.int .i64 2,.int .u64 (wd ms 0:Nat),.int .u64 (wd ms 1:Nat),.int .u64 (wd ms 2:Nat),.int .u64 (wd ms 3:Nat),.slice A l.length c,.int .i64 lo,.int .i64 hi] 39)).alloc (.cells #[.slice none 0 0,.slice none 0 0,.bool false] 73)=w2:=⟨_,rfl⟩
 have hb2:Below w.heap.size w w2:=by rw [<-hw2];exact((Below.refl _ _).alloc (Nat.le_refl _) _).alloc (by simp) _
 have hs2:w2.heap.size=w.heap.size+2:=by rw [<-hw2];simp
 have hx0:BlkIs w2 w.heap.size 39 #[.int .i64 2,.int .u64 (wd ms 0:Nat),.int .u64 (wd ms 1:Nat),.int .u64 (wd ms 2:Nat),.int .u64 (wd ms 3:Nat),.slice A l.length c,.int .i64 lo,.int .i64 hi]:=by rw [<-hw2];exact(BlkIs.new w _ _).alloc _
 have hx1:BlkIs w2 (w.heap.size+1) 73 #[.slice none 0 0,.slice none 0 0,.bool false]:=by
  rw [<-hw2];have h:=BlkIs.new (w.alloc (.cells #[.int .i64 2,.int .u64 (wd ms 0:Nat),.int .u64 (wd ms 1:Nat),.int .u64 (wd ms 2:Nat),.int .u64 (wd ms 3:Nat),.slice A l.length c,.int .i64 lo,.int .i64 hi] 39)) 73 #[.slice none 0 0,.slice none 0 0,.bool false];rw [World.size_alloc]at h;exact h
 have hMf:∀ k,w.heap.size<=k->M k=false:=fun k hk=>by
  rw [Bool.eq_false_iff];intro e;have:=hM k e;omega
 have hK2:∀ k,Kor K (w.heap.size+1) k=true->k<w2.heap.size:=xzdr (fun k hk=>by have:=hK k hk;omega) (by omega)
 have hM2:∀ k,M k=true->k<w2.heap.size:=fun k hk=>by have:=hM k hk;omega
 have hm2:MkAt M (Kor K (w.heap.size+1)) w2 pb S r f e m:=hm.new hb2 (by omega);have HBX:=zd (And.intro hx0 hx1);have HMF:=zd hMf;have HW2:=zd (And.intro hb2 hs2)
 have HPA:=zd (xzkz l IH hokT M (Kor K (w.heap.size+1)) S A c pb r f e m w2.drew (hm2.step (Below.refl _ _).drew) (fun hne=>by
  obtain⟨b,o,e1,_,hg⟩:=hrows hne;refine⟨b,o,e1,fun i hi=>?_⟩;obtain⟨cs,h1,h2,h3⟩:=hg i hi;have hbd:Below w.heap.size w w2.drew:=hb2.drew
  exact⟨cs,h1.sub (xzad _ hbd),h2,fun j x hx=>xzad _ hbd _ _ (h3 j x hx)⟩) hS hnn hll hM2 hK2)
 have HO:=zd (And.intro ho1 (And.intro ho2 (And.intro (show(partsP l S).1.sets.length<=1048576 by omega) (show(partsP l S).2.length<=1048576 by omega))));have HK2:=zd hK2;obtain⟨d0,d1,d2,d3,d4,d5,d6,d7⟩:=hx0.eight;unfold reV reL;clear hb2 hs2 hx0 hx1 hMf hK2 hM2 hm2 hm hat hS hn hM hK hp1 hrows IH hokT hnn ho1 ho2 ho3 ho4;generalize partsP l S=PS at*
 go_enter Try.func39,Try.ntmps39
 go_wp2_with fail
 refine xzed 8 41 4 (fun cph u=>match cph with|false=>u=w2.drew|true=>BlkIs u w.heap.size 39 #[.int .i64 2,.int .u64 (wd ms 0:Nat),.int .u64 (wd ms 1:Nat),.int .u64 (wd ms 2:Nat),.int .u64 (wd ms 3:Nat),.slice A l.length c,.int .i64 lo,.int .i64 hi]) (fun i u u'=>(i=4->BlkIs u' w.heap.size 39 #[.int .i64 2,.int .u64 (wd ms 0:Nat),.int .u64 (wd ms 1:Nat),.int .u64 (wd ms 2:Nat),.int .u64 (wd ms 3:Nat),.slice A l.length c,.int .i64 lo,.int .i64 hi])/\(i≠4->u'=u))
  (fun i v u=>match i with
   |0=>v=.pointer (some ⟨pb,0,none⟩)
   |1=>v=.pointer (some ⟨pb,0,none⟩)
   |2=>v=.pointer (some ⟨w.heap.size,5,none⟩)
   |3=>v=.slice A l.length c
   |4=>∃ M1,Nx M M1 w2 u/\(∀ k,M1 k=true->k<u.heap.size)/\MkAt M1 (Kor K (w.heap.size+1)) u pb PS.1 r f e m/\PrtsAt (hide u (MK M1 (Kor K (w.heap.size+1)))) (hide u M1) PS.2 v/\BlkIs u (w.heap.size+1) 73 #[.slice none 0 0,.slice none 0 0,.bool false]
   |5=>v=.pointer (some ⟨w.heap.size,5,none⟩)
   |6=>v=.slice A l.length c
   |7=>v=.int .i64 (l.length:Int)
   |_=>True) (by kernel_rfl) (by kernel_rfl) rfl rfl ?_ ?_ ?_ ?_
 ·intro i cph u u' hix hcx hC hr
  by_cases hi4:i=4
  ·rw [show(cph||decide (i=4))=true by simp [hi4]]
   exact hr.1 hi4
  ·rw [show(cph||decide (i=4))=cph by simp [hi4],hr.2 hi4]
   exact hC
 ·intro i j v u u' hix hj hne hv hr
  match i,hix,hne,hv with
  |0,_,_,hv=>exact hv
  |1,_,_,hv=>exact hv
  |2,_,_,hv=>exact hv
  |3,_,_,hv=>exact hv
  |4,_,hne,hv=>
   rw [hr.2 (Ne.symm hne)];exact hv
  |5,_,_,hv=>exact hv
  |6,_,_,hv=>exact hv
  |7,_,_,hv=>exact hv
  |i+8,hix,_,_=>omega
 ·intro i hix cph vs u hcx hC hw oq ho
  match i,hix,hcx,hw,ho with
  |0,_,hcx,hw,ho=>
   simp only [zq,zh]at ho;subst ho;refine⟨rfl,?_⟩;clear hw hcx;simp only [xzaa,tmpsTo];go_simp;exact xzab (rfl) rfl
  |1,_,hcx,hw,ho=>
   simp only [zq,zh]at ho;subst ho;refine⟨rfl,?_⟩;clear hw hcx;simp only [xzaa,tmpsTo,putT,zr];go_simp;exact xzab (rfl) rfl
  |2,_,hcx,hw,ho=>
   simp only [zq,zh]at ho;subst ho;refine⟨rfl,?_⟩;clear hw hcx;simp only [xzaa,tmpsTo,putT,zr];go_simp;exact xzab (rfl) rfl
  |3,_,hcx,hw,ho=>
   have e2:vs 2=.pointer (some ⟨w.heap.size,5,none⟩):=hw 2 (by omega) (by kernel_rfl);simp only [zq,zh]at ho;subst ho;refine⟨rfl,?_⟩
   have hbx:BlkIs u w.heap.size 39 #[.int .i64 2,.int .u64 (wd ms 0:Nat),.int .u64 (wd ms 1:Nat),.int .u64 (wd ms 2:Nat),.int .u64 (wd ms 3:Nat),.slice A l.length c,.int .i64 lo,.int .i64 hi]:=by
    cases cph with
    |false=>have hC:u=w2.drew:=hC;rw [hC];exact HBX.out.1.drew
    |true=>exact hC
   obtain⟨d0,d1,d2,d3,d4,d5,d6,d7⟩:=hbx.eight;clear hbx hC;clear hw hcx;simp only [xzaa,tmpsTo,putT,zr];rw [e2];clear e2;go_simp;exact xzab (rfl) rfl
  |4,_,hcx,hw,ho=>
   have e1:vs 1=.pointer (some ⟨pb,0,none⟩):=hw 1 (by omega) (by kernel_rfl);have e3:vs 3=.slice A l.length c:=hw 3 (by omega) (by kernel_rfl);simp only [zq,zh]at ho;subst ho;refine⟨rfl,?_⟩;clear hw;simp only [xzaa,tmpsTo,putT,zr];rw [e1,e3];clear e1 e3;have hc:=hcx rfl;subst hc;have hC:u=w2.drew:=hC;subst hC;clear hcx;go_simp;refine xzbv (HPA.out.mono ?_);rintro e u' ⟨M1,v1,rfl,h1,h2,h3,h4⟩;refine⟨v1,rfl,?_,M1,(Nx.below ((Below.refl _ w2).drew)).trans h1,h2,h3,h4,(HBX.out.2.drew).nx h1 (HMF.out _ (by omega))⟩
   first|exact(HBX.out.1.drew).nx h1 (HMF.out _ (Nat.le_refl _))|exact⟨fun _=>(HBX.out.1.drew).nx h1 (HMF.out _ (Nat.le_refl _)),fun h=>absurd rfl h⟩
  |5,_,hcx,hw,ho=>
   simp only [zq,zh]at ho;subst ho;refine⟨rfl,?_⟩;clear hw hcx;simp only [xzaa,tmpsTo,putT,zr];go_simp;exact xzab (rfl) rfl
  |6,_,hcx,hw,ho=>
   have e5:vs 5=.pointer (some ⟨w.heap.size,5,none⟩):=hw 5 (by omega) (by kernel_rfl);simp only [zq,zh]at ho;subst ho;refine⟨rfl,?_⟩
   have hbx:BlkIs u w.heap.size 39 #[.int .i64 2,.int .u64 (wd ms 0:Nat),.int .u64 (wd ms 1:Nat),.int .u64 (wd ms 2:Nat),.int .u64 (wd ms 3:Nat),.slice A l.length c,.int .i64 lo,.int .i64 hi]:=by
    cases cph with
    |false=>have hC:u=w2.drew:=hC;rw [hC];exact HBX.out.1.drew
    |true=>exact hC
   obtain⟨d0,d1,d2,d3,d4,d5,d6,d7⟩:=hbx.eight;clear hbx hC;clear hw hcx;simp only [xzaa,tmpsTo,putT,zr];rw [e5];clear e5;go_simp;exact xzab (rfl) rfl
  |7,_,hcx,hw,ho=>
   have e6:vs 6=.slice A l.length c:=hw 6 (by omega) (by kernel_rfl);simp only [zq,zh]at ho;subst ho;refine⟨rfl,?_⟩;clear hw hcx;simp only [xzaa,tmpsTo,putT,zr];rw [e6];clear e6;go_simp;exact xzab (rfl) rfl
  |i+8,hix,_,_,_=>omega
 intro vs1 u hC hV;obtain⟨v4,h4⟩:∃ v,v=vs1 4:=⟨_,rfl⟩
 have hV4:∃ M1,Nx M M1 w2 u/\(∀ k,M1 k=true->k<u.heap.size)/\MkAt M1 (Kor K (w.heap.size+1)) u pb PS.1 r f e m/\PrtsAt (hide u (MK M1 (Kor K (w.heap.size+1)))) (hide u M1) PS.2 v4/\BlkIs u (w.heap.size+1) 73 #[.slice none 0 0,.slice none 0 0,.bool false]:=by rw [h4];exact hV 4 (by omega)
 obtain⟨M1,hn1,hlt1,hmk,hps,hb1⟩:=hV4;have e0:vs1 0=.pointer (some ⟨pb,0,none⟩):=hV 0 (by omega);have eL:vs1 7=.int .i64 (l.length:Int):=hV 7 (by omega);clear hV hC;simp only [xzaa,tmpsTo,putT,zr,List.drop_succ_cons,List.drop_zero];rw [e0,eL,<-h4];clear e0 eL h4;generalize vs1 1=q1;generalize vs1 2=q2;generalize vs1 3=q3;generalize vs1 5=q5;generalize vs1 6=q6
 have hkk:∀ k,Kor K (w.heap.size+1) k=true->k<u.heap.size:=fun k hk=>Nat.lt_of_lt_of_le (HK2.out k hk) hn1.size
 have HIR:=zd (xzkx M1 (Kor K (w.heap.size+1)) PS.1 PS.2 v4 (l.length:Int) pb r f e m u hmk hps HO.out.1 HO.out.2.1 HO.out.2.2.1 HO.out.2.2.2 hlt1 hkk);obtain⟨k0,k1,k2,l0,l1,l2⟩:=three hb1;have HN1:=zd (And.intro hn1 (And.intro hlt1 (And.intro hb1 (hn1.keeps (by have:=HW2.out.2;omega) (HMF.out (w.heap.size+1) (by omega))))));clear hn1 hlt1 hmk hps hb1 hkk
 go_wp2_with fail
 go_at_call 48
 refine HIR.out.mono ?_;rintro x u2 ⟨v2,rfl,hnx,hmk2,p1,p2,rfl,hp1,hp2⟩;have hb2:=HN1.out.2.2.1.nx hnx HN1.out.2.2.2;have hfin:=xzgh hb2 ((Nx.below HW2.out.1).trans (HN1.out.1.trans hnx)) (by omega) HN1.out.2.2.2 (fun k hk=>Nat.lt_of_lt_of_le (HN1.out.2.1 k hk) hnx.size) hmk2 hp1 hp2 _ rfl;obtain⟨Y1,y1,rfl,_⟩:=hp1.form;obtain⟨Y2,y2,rfl,_⟩:=hp2.form;clear k0 k1 k2 l0 l1 l2;obtain⟨k0,k1,k2,l0,l1,l2⟩:=three hb2;have HFN:=zd hfin;have hlt:=hb2.lt;clear hfin hb2 hnx hmk2 hp1 hp2;go_wp2;obtain⟨hl,M2,v',hv,h1,h2,h3,h4⟩:=HFN.out;exact⟨rfl,_,xzaf rfl rfl hl,M2,_,congrArg Ending.returned hv,h1,h2,h3,h4⟩
mutual
def Tree.once:Tree->Bool
 | .node k _ l lo hi=>(k != 4||(decide (copiesI lo hi<=1)))&&onceL l
def onceL:List Tree->Bool
 |[]=>true
 |t::r=>t.once&&onceL r
end
theorem xzcw (T:Tree)(h:T.ok=true):T.okT:=by
 induction T using Tree.ind with
 |h k m l lo hi ih=>
  have hop:=xzcb h;have hkind:=xzas hop.2;unfold Tree.okT;refine⟨⟨fun e=>?_,fun e=>?_,fun e1 e2 e3 e4=>?_⟩,?_⟩
  ·apply List.eq_nil_of_length_eq_zero;omega
  ·omega
  ·apply List.eq_nil_of_length_eq_zero;omega
  ·have:∀ (r:List Tree),(∀ t∈r,t.okT)->okTs r:=fun r=>by
    induction r with
    |nil=>intro _;unfold okTs;trivial
    |cons x r ihr=>intro hr;unfold okTs;exact⟨hr x (by simp),ihr fun t ht=>hr t (by simp [ht])⟩
   exact this l fun t ht=>ih t ht (hop.1 t ht)
end
section
open Go.RowKit
theorem xzmq {P:Program}{W:World}{B n z c:Nat}{t ty e:TypeId}{i:TypeInfo}{v:Value}{A:Option Addr}{xs:List Value}(ht:P.underlying t=some (.slice e))(hi:P.info? e=some i)(h:W.ownsRow B e z v n xs):
 (Builtin.append_ #[t,t] ty #[v,.slice A 0 c]).run P W=.ok v W:=by
 rcases h.2 with⟨rfl,rfl⟩|⟨g,cap,cur,rfl,_,_,hnc,_,_⟩
 ·cases A<;>simp [Builtin.append_,run_underlying ht,sizeOf,typeInfo,hi,Builtin.lenOf,Builtin.firstCells,loadCells,loadCellsFrom,Result.andThen]
 ·cases A<;>simp [Builtin.append_,run_underlying ht,sizeOf,typeInfo,hi,Builtin.lenOf,Builtin.firstCells,loadCells,loadCellsFrom,storeCells,hnc,Result.andThen]
section
variable {W : World} {v : Value} {n : Nat} {xs : List Value}
theorem xzhe (hown:W.ownsRow 0 3 1 v n xs){l:List Int}{vb:Value}(hb:IntsV W l vb)(hl:n+l.length<=1099511627776):
 ∃ v' W',(Builtin.append_ #[26,26] 26 #[v,vb]).run Try.prog W=.ok v' W'/\W'.ownsRow 0 3 1 v' (n+l.length) (xs++l.map (Value.int .i64))/\W.grownBy W' v.ownBlock/\
  W'.ownsRow 0 3 1 v n xs/\(v'.ownBlock=v.ownBlock\/v'.ownBlock=some W.heap.size):=by
 obtain⟨i0,hi0,hz0,hz1,hz2⟩:=info_parts xzeo
 by_cases hne:l=[]
 ·subst hne
  obtain⟨A,c,rfl,_⟩:=hb.form;exact⟨v,W,xzmq (P:=Try.prog) Try.underlying26 hi0 hown,by simpa using hown,⟨rfl,rfl,rfl,Nat.le_refl _,fun _ _ _=>rfl⟩,hown,.inl rfl⟩
 ·obtain⟨b,o,c,rfl,hr⟩:=hb.run hne
  have hnw:∀ j u,(l.map (Value.int .i64))[j]? =some u->W.cell? ((⟨b,o,none⟩:Addr).add j)=some u:=fun j u hu=>by
   rw [List.getElem?_map]at hu
   cases e:l[j]? with
   |none=>rw [e]at hu;cases hu
   |some x=>
    rw [e]at hu;obtain⟨hj,rfl⟩:=List.getElem?_eq_some_iff.1 e;rw [Addr.add_lit];exact(hr.2 j hj).trans hu
  obtain⟨v',W',h1,h2,h3,_,h4⟩:=run_append_own_at (P:=Try.prog) (w:=W) 0 26 26 3 i0 (.int .i64 0) 1 8 Try.underlying26 hi0 hz0 hz1 hz2 rfl (by decide) v n xs hown
   ⟨b,o,none⟩ l.length c (l.map (Value.int .i64)) (by simp) hnw (xzoj l) (by unfold maxLen;omega) (by omega) (Nat.zero_le _)
  exact⟨v',W',h1,h2,h3,xzby (P:=Try.prog) Try.underlying26 hi0 hz0 hz1 hz2 hown (by simp) hnw (xzoj l) (by unfold maxLen;omega) (by omega) h1,h4⟩
theorem xzmr (hown:W.ownsRow 0 4 1 v n xs){a:Addr}{c:Nat}{x:Bool}(hnews:W.cell? a=some (.bool x))(hl:n+1<=1099511627776):
 ∃ v' W',(Builtin.append_ #[28,28] 28 #[v,.slice (some a) 1 c]).run Try.prog W=.ok v' W'/\W'.ownsRow 0 4 1 v' (n+1) (xs++[.bool x])/\W.grownBy W' v.ownBlock/\
  W'.ownsRow 0 4 1 v n xs/\(v'.ownBlock=v.ownBlock\/v'.ownBlock=some W.heap.size):=by
 obtain⟨i0,hi0,hz0,hz1,hz2⟩:=info_parts xzkp
 have hnw:∀ j u,[Value.bool x][j]? =some u->W.cell? (a.add j)=some u:=fun j u hu=>by
  cases j with
  |zero=>
   simp only [List.getElem?_cons_zero,zh]at hu;subst hu
   have e:a.add 0=a:=by unfold Addr.add;split<;>simp_all
   rw [e];exact hnews
  |succ j=>simp at hu
 have hone:∀ u∈[Value.bool x],u.oneCell'=true:=fun u hu=>by rw [List.mem_singleton.1 hu];rfl
 obtain⟨v',W',h1,h2,h3,_,h4⟩:=run_append_own_at (P:=Try.prog) (w:=W) 0 28 28 4 i0 _ 1 1 Try.underlying28 hi0 hz0 hz1 hz2 rfl (by decide) v n xs hown
  a 1 c [.bool x] rfl hnw hone (by unfold maxLen;omega) (by omega) (Nat.zero_le _)
 exact⟨v',W',h1,h2,h3,xzby (P:=Try.prog) Try.underlying28 hi0 hz0 hz1 hz2 hown (by rfl) hnw hone (by unfold maxLen;omega) (by omega) h1,h4⟩
end
def Beside (M K:Nat->Bool)(v:Value):Prop:=∀ k,v.ownBlock=some k->K k=true/\M k=false
structure FkI (M K:Nat->Bool)(W:World)(pb:Nat)(S:Mk)(R F:List Int)(E:List Bool)(em:Int)(r f e:Value):Prop where
 mka:MkAt M K W pb S r f e (.int .i64 em)
 rr:W.ownsRow 0 3 1 r R.length (R.map (Value.int .i64))
 rf:W.ownsRow 0 3 1 f F.length (F.map (Value.int .i64))
 re:W.ownsRow 0 4 1 e E.length (E.map Value.bool)
 br:Beside M K r
 bf:Beside M K f
 be:Beside M K e
 nrf:∀ k,r.ownBlock=some k->f.ownBlock≠some k
 nre:∀ k,r.ownBlock=some k->e.ownBlock≠some k
 nfe:∀ k,f.ownBlock=some k->e.ownBlock≠some k
end
end Go.Proofs.Ythoaaginadjaoaa
