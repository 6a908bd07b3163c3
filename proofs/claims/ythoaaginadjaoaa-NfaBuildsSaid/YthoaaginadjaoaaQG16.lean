/-
 WHAT nfa's link ANSWERS: a contract. Condition: the places that end are places; the rows rise, below 2^20.
-/
import Derived.Test.YthoaaginadjaoaaQG14
import Derived.Test.YthoaaginadjaoaaQG15
namespace Go.Proofs.Ythoaaginadjaoaa
section
open Go.RowKit
attribute [local irreducible] FreeW textFrame
theorem IntsV.form {W:World}{l:List Int}{v:Value}(h:IntsV W l v):∃ A c,v=.slice A l.length c/\(l.length<=c/\c<=9223372036854775807):=by
 obtain⟨A,c,rfl,hc,_⟩:=h;exact⟨A,c,rfl,hc⟩
set_option maxRecDepth 20000 in
set_option maxHeartbeats 16000000 in
theorem xzon (M K:Nat->Bool)(S:Mk)(E row:List Int)(ve vr:Value)(pb:Nat)(r f e m:Value)(w:World)(hm:MkAt M K w pb S r f e m)(he:IntsV (hide w (MK M K)) E ve)(hr:IntsV (hide w (MK M K)) row vr)
 (hS:S.Ok)(hE:risesB S.sets.length (-1) E=true)(hrow:risesB S.sets.length (-1) row=true)(hn:S.sets.length<=1048576)(hM:∀ k,M k=true->k<w.heap.size)(hK:∀ k,K k=true->k<w.heap.size):
 Calls Try.prog 60 #[.pointer (some ⟨pb,0,none⟩),ve,vr] w fun x w'=>∃ y,x=.returned y/\Nx M M w w'/\MkAt M K w' pb ⟨S.sets,linkF S.follow E row⟩ r f e m:=by
 obtain⟨Ae,ce,rfl,hce⟩:=he.form;obtain⟨Ar,cr,rfl,hcr⟩:=hr.form;have HE:=zd he;have HR:=zd hr;have H0:=zd hm;have HI:=zd (fun(j:Nat) (h:j<E.length)=>xzau hE _ (List.getElem_mem h));have HO:=zd (fun j=>xzgb (n:=S.sets.length) (E.take j) hS.2 hrow);have HL:=zd (fun j=>(xzbl (E.take j) S.follow row).trans hS.1);have HS:=zd (fun(j:Nat) (h:j<E.length)=>(show linkF S.follow (E.take (j+1)) row=(linkF S.follow (E.take j) row).set E[j].toNat (mergedL ((linkF S.follow (E.take j) row).getD E[j].toNat []) row)by rw [List.take_succ_eq_append_getElem h];exact xzij row E[j] (E.take j) S.follow));have HRO:=zd (xzai hrow);have HMK:=zd (fun k (h:MK M K k=true)=>(show k<w.heap.size by unfold MK at h;simp only [Bool.or_eq_true]at h;rcases h with h|h;exact hM k h;exact hK k h));clear he hr hm hE hrow hS hM hK
 go_enter Try.func60,Try.ntmps60
 go_wp2
 go_loopw [10] (fun i wr=>∃ j:Nat,i=.int .i64 j/\j<=E.length/\Hid (MkAt M K wr pb ⟨S.sets,linkF S.follow (E.take j) row⟩ r f e m/\Nx M M w wr)) (fun i _=>E.length - (intOf i).toNat)
 case atStart=>exact⟨0,rfl,Nat.zero_le _,zd ⟨H0.out,Nx.refl _ _⟩⟩
 case round=>
  obtain⟨j,rfl,hj,HH⟩:=hrel
  by_cases hp:j<E.length
  ·have hk1:IntKind.i64.wrap ((j:Int)+1)=((j+1:Nat):Int):=by rw [IntKind.wrap_i64];omega
   have hdl:decide ((j:Int)<(E.length:Int))=true:=by simp;omega
   have hx:=HI.out j hp;have hs:=HS.out j hp;have ho:=HO.out j;have hl:=HL.out j;have hhm:=HH.out.1
   have hne:E≠[]:=by intro e;rw [e]at hp;simp at hp
   obtain⟨be,oe,ce',h1,hre⟩:=HE.out.run hne
   injection h1 with h1 _ h2
   subst h1 h2;have hcell:=(xzar _ _ ((hre.sub (HH.out.2.sub K)).2 j hp));have HNX:=zd HH.out.2;clear hre HH;generalize linkF S.follow (E.take j) row=F at*;generalize E[j]=x at*;obtain⟨xn,rfl⟩:=Int.eq_ofNat_of_zero_le (show 0<=x by omega)
   have hxn:xn<F.length:=by omega
   have hxi:(xn:Int)<(F.length:Int):=by omega
   rw [Int.toNat_natCast]at hs
   have hgd:F.getD xn []=F[xn]:=by simp [hxn]
   rw [hgd]at hs;obtain⟨vs,vf,xs,hmi⟩:=hhm;obtain⟨g,c,rfl,hc,hg1,hg2,hg3,hg4⟩:=hmi.place (by intro e;have e:F=[]:=e;rw [e]at hxn;simp at hxn);obtain⟨A1,n1,c1,hy0,hy1,hy2⟩:=hg4 xn hxn;obtain⟨A1',c1',h1,hcc1⟩:=hy2.form
   injection h1 with h1 h2 h3
   subst h1 h2 h3;simp only at hc hy2 hy0 hcc1;have HMI:=zd hmi;have HC:=zd (fun u (hu:Below wr.heap.size wr u)=>And.intro (six (hmi.blk.step hu)) (show u.cell? ⟨g,xn,none⟩=some (.slice A1 F[xn].length c1)from(hu.cell (p:=⟨g,xn,none⟩) hg3).trans hy0))
   have hfr:∀ u,Below wr.heap.size wr u->u.frozen? ⟨g,xn,none⟩=false:=fun u hu=>(hu.frozen (p:=⟨g,xn,none⟩) hg3).trans hy1
   have HFR:=zd hfr;have hlen1:F[xn].length<=S.sets.length:=xzai (ho _ (List.getElem_mem hxn));have HM:=zd (fun u (hu:Below wr.heap.size wr u)=>xzbw F[xn] row _ _ u (MK M K) (fun k hk=>Nat.lt_of_lt_of_le (HMK.out k hk) (Nat.le_trans HNX.out.size hu.size)) (hy2.sub (xzad _ hu)) ((HR.out.sub (HNX.out.sub K)).sub (xzad _ hu)) (by have:=HRO.out;omega));have HSS:=zd hs;have HG:=zd (And.intro hg1 hg3);clear hmi hy0 hy1 hy2 hg4 hfr ho hs hgd hx hl hlen1 hg1 hg2 hg3
   go_wp2_with fail
   refine xzan 17 32 (fun u=>Hid (Below wr.heap.size wr u)) (fun _ u u'=>Below u.heap.size u u')
    (fun i v u=>match i with
     |0=>v=.pointer (some ⟨pb,0,none⟩)
     |1=>v=.pointer (some ⟨pb,0,none⟩)
     |2=>v=.pointer (some ⟨pb,0,none⟩)
     |3=>v=.pointer (some ⟨pb,3,none⟩)
     |4=>v=.slice (some ⟨g,0,none⟩) F.length c
     |5=>v=.int .i64 (xn:Int)
     |6=>v=.pointer (some ⟨pb,0,none⟩)
     |7=>v=.pointer (some ⟨pb,0,none⟩)
     |8=>v=.pointer (some ⟨pb,0,none⟩)
     |9=>v=.pointer (some ⟨pb,3,none⟩)
     |10=>v=.slice (some ⟨g,0,none⟩) F.length c
     |11=>v=.int .i64 (xn:Int)
     |12=>v=.pointer (some ⟨g,xn,none⟩)
     |13=>v=.slice A1 F[xn].length c1
     |14=>v=.slice Ar row.length cr
     |15=>IntsV (hide u (MK M K)) (mergedL F[xn] row) v
     |16=>v=.pointer (some ⟨g,xn,none⟩)
     |_=>True) (by kernel_rfl) (by kernel_rfl) rfl (zd (Below.refl _ _).drew) ?_ ?_ ?_ ?_
   ·intro i u u' hi hC hr
    exact zd (hC.out.trans (hr.mono hC.out.size))
   ·intro i j v u u' hi hj hne hv hr
    match i,hi,hne,hv with
    |0,_,_,hv=>exact hv
    |1,_,_,hv=>exact hv
    |2,_,_,hv=>exact hv
    |3,_,_,hv=>exact hv
    |4,_,_,hv=>exact hv
    |5,_,_,hv=>exact hv
    |6,_,_,hv=>exact hv
    |7,_,_,hv=>exact hv
    |8,_,_,hv=>exact hv
    |9,_,_,hv=>exact hv
    |10,_,_,hv=>exact hv
    |11,_,_,hv=>exact hv
    |12,_,_,hv=>exact hv
    |13,_,_,hv=>exact hv
    |14,_,_,hv=>exact hv
    |15,_,hne,hv=>
     exact hv.sub (xzad _ hr)
    |16,_,_,hv=>exact hv
    |i+17,hi,_,_=>omega
   ·intro i hi vs u hC hw o ho
    match i,hi,hw,ho with
    |0,_,hw,ho=>
     simp only [zq,zh]at ho;subst ho;refine⟨rfl,?_⟩;obtain⟨⟨k0,k1,k2,k3,k4,k5⟩,y0⟩:=HC.out u hC.out;clear hw;simp only [xzaa,tmpsTo];go_simp;exact xzab (Below.refl _ _) rfl
    |1,_,hw,ho=>
     have e0:vs 0=.pointer (some ⟨pb,0,none⟩):=hw 0 (by omega) (by kernel_rfl);simp only [zq,zh]at ho;subst ho;refine⟨rfl,?_⟩;obtain⟨⟨k0,k1,k2,k3,k4,k5⟩,y0⟩:=HC.out u hC.out;clear hw;simp only [xzaa,tmpsTo,putT,zr];rw [e0];clear e0;go_simp;exact xzab (Below.refl _ _) rfl
    |2,_,hw,ho=>
     have e1:vs 1=.pointer (some ⟨pb,0,none⟩):=hw 1 (by omega) (by kernel_rfl);simp only [zq,zh]at ho;subst ho;refine⟨rfl,?_⟩;obtain⟨⟨k0,k1,k2,k3,k4,k5⟩,y0⟩:=HC.out u hC.out;clear hw;simp only [xzaa,tmpsTo,putT,zr];rw [e1];clear e1;go_simp;exact xzab (Below.refl _ _) rfl
    |3,_,hw,ho=>
     have e2:vs 2=.pointer (some ⟨pb,0,none⟩):=hw 2 (by omega) (by kernel_rfl);simp only [zq,zh]at ho;subst ho;refine⟨rfl,?_⟩;obtain⟨⟨k0,k1,k2,k3,k4,k5⟩,y0⟩:=HC.out u hC.out;clear hw;simp only [xzaa,tmpsTo,putT,zr];rw [e2];clear e2;go_simp;exact xzab (Below.refl _ _) rfl
    |4,_,hw,ho=>
     have e3:vs 3=.pointer (some ⟨pb,3,none⟩):=hw 3 (by omega) (by kernel_rfl);simp only [zq,zh]at ho;subst ho;refine⟨rfl,?_⟩;obtain⟨⟨k0,k1,k2,k3,k4,k5⟩,y0⟩:=HC.out u hC.out;clear hw;simp only [xzaa,tmpsTo,putT,zr];rw [e3];clear e3;go_simp;exact xzab (Below.refl _ _) rfl
    |5,_,hw,ho=>
     simp only [zq,zh]at ho;subst ho;refine⟨rfl,?_⟩;obtain⟨⟨k0,k1,k2,k3,k4,k5⟩,y0⟩:=HC.out u hC.out;clear hw;simp only [xzaa,tmpsTo,putT,zr];go_simp;exact xzab (Below.refl _ _) rfl
    |6,_,hw,ho=>
     simp only [zq,zh]at ho;subst ho;refine⟨rfl,?_⟩;obtain⟨⟨k0,k1,k2,k3,k4,k5⟩,y0⟩:=HC.out u hC.out;clear hw;simp only [xzaa,tmpsTo,putT,zr];go_simp;exact xzab (Below.refl _ _) rfl
    |7,_,hw,ho=>
     have e6:vs 6=.pointer (some ⟨pb,0,none⟩):=hw 6 (by omega) (by kernel_rfl);simp only [zq,zh]at ho;subst ho;refine⟨rfl,?_⟩;obtain⟨⟨k0,k1,k2,k3,k4,k5⟩,y0⟩:=HC.out u hC.out;clear hw;simp only [xzaa,tmpsTo,putT,zr];rw [e6];clear e6;go_simp;exact xzab (Below.refl _ _) rfl
    |8,_,hw,ho=>
     have e7:vs 7=.pointer (some ⟨pb,0,none⟩):=hw 7 (by omega) (by kernel_rfl);simp only [zq,zh]at ho;subst ho;refine⟨rfl,?_⟩;obtain⟨⟨k0,k1,k2,k3,k4,k5⟩,y0⟩:=HC.out u hC.out;clear hw;simp only [xzaa,tmpsTo,putT,zr];rw [e7];clear e7;go_simp;exact xzab (Below.refl _ _) rfl
    |9,_,hw,ho=>
     have e8:vs 8=.pointer (some ⟨pb,0,none⟩):=hw 8 (by omega) (by kernel_rfl);simp only [zq,zh]at ho;subst ho;refine⟨rfl,?_⟩;obtain⟨⟨k0,k1,k2,k3,k4,k5⟩,y0⟩:=HC.out u hC.out;clear hw;simp only [xzaa,tmpsTo,putT,zr];rw [e8];clear e8;go_simp;exact xzab (Below.refl _ _) rfl
    |10,_,hw,ho=>
     have e9:vs 9=.pointer (some ⟨pb,3,none⟩):=hw 9 (by omega) (by kernel_rfl);simp only [zq,zh]at ho;subst ho;refine⟨rfl,?_⟩;obtain⟨⟨k0,k1,k2,k3,k4,k5⟩,y0⟩:=HC.out u hC.out;clear hw;simp only [xzaa,tmpsTo,putT,zr];rw [e9];clear e9;go_simp;exact xzab (Below.refl _ _) rfl
    |11,_,hw,ho=>
     simp only [zq,zh]at ho;subst ho;refine⟨rfl,?_⟩;obtain⟨⟨k0,k1,k2,k3,k4,k5⟩,y0⟩:=HC.out u hC.out;clear hw;simp only [xzaa,tmpsTo,putT,zr];go_simp;exact xzab (Below.refl _ _) rfl
    |12,_,hw,ho=>
     have e10:vs 10=.slice (some ⟨g,0,none⟩) F.length c:=hw 10 (by omega) (by kernel_rfl);have e11:vs 11=.int .i64 (xn:Int):=hw 11 (by omega) (by kernel_rfl);simp only [zq,zh]at ho;subst ho;refine⟨rfl,?_⟩;obtain⟨⟨k0,k1,k2,k3,k4,k5⟩,y0⟩:=HC.out u hC.out;clear hw;simp only [xzaa,tmpsTo,putT,zr];rw [e10,e11];clear e10 e11;go_simp;exact xzab (Below.refl _ _) rfl
    |13,_,hw,ho=>
     have e12:vs 12=.pointer (some ⟨g,xn,none⟩):=hw 12 (by omega) (by kernel_rfl);simp only [zq,zh]at ho;subst ho;refine⟨rfl,?_⟩;obtain⟨⟨k0,k1,k2,k3,k4,k5⟩,y0⟩:=HC.out u hC.out;clear hw;simp only [xzaa,tmpsTo,putT,zr];rw [e12];clear e12;go_simp;exact xzab (Below.refl _ _) rfl
    |14,_,hw,ho=>
     simp only [zq,zh]at ho;subst ho;refine⟨rfl,?_⟩;obtain⟨⟨k0,k1,k2,k3,k4,k5⟩,y0⟩:=HC.out u hC.out;clear hw;simp only [xzaa,tmpsTo,putT,zr];go_simp;exact xzab (Below.refl _ _) rfl
    |15,_,hw,ho=>
     have e13:vs 13=.slice A1 F[xn].length c1:=hw 13 (by omega) (by kernel_rfl);have e14:vs 14=.slice Ar row.length cr:=hw 14 (by omega) (by kernel_rfl);simp only [zq,zh]at ho;subst ho;refine⟨rfl,?_⟩;obtain⟨⟨k0,k1,k2,k3,k4,k5⟩,y0⟩:=HC.out u hC.out;clear hw;simp only [xzaa,tmpsTo,putT,zr];rw [e13,e14];clear e13 e14;go_simp;refine xzbv ((HM.out u hC.out).mono ?_);rintro e u' ⟨v',rfl,h1,h2⟩;exact⟨v',rfl,h2,h1⟩
    |16,_,hw,ho=>
     have e4:vs 4=.slice (some ⟨g,0,none⟩) F.length c:=hw 4 (by omega) (by kernel_rfl);have e5:vs 5=.int .i64 (xn:Int):=hw 5 (by omega) (by kernel_rfl);simp only [zq,zh]at ho;subst ho;refine⟨rfl,?_⟩;obtain⟨⟨k0,k1,k2,k3,k4,k5⟩,y0⟩:=HC.out u hC.out;clear hw;simp only [xzaa,tmpsTo,putT,zr];rw [e4,e5];clear e4 e5;go_simp;exact xzab (Below.refl _ _) rfl
    |i+17,hi,_,_=>omega
   intro vs1 u hC hV;obtain⟨v15,h15⟩:∃ v,vs1 15=v:=⟨_,rfl⟩;have hv:IntsV (hide u (MK M K)) (mergedL F[xn] row) (vs1 15):=hV 15 (by omega);have hv16:vs1 16=.pointer (some ⟨g,xn,none⟩):=hV 16 (by omega);rw [h15]at hv;have HV:=zd hv;obtain⟨A9,c9,rfl,_⟩:=hv.form;have HCO:=zd hC.out;have hfz:=HFR.out u hC.out;have hcl:=(HC.out u hC.out).2;clear hV hv hC;simp only [xzaa,tmpsTo,putT,zr,List.drop_succ_cons,List.drop_zero];rw [h15,hv16];clear h15 hv16;generalize vs1 0=q0;go_wp2;refine⟨⟨j+1,rfl,hp,zd ⟨?_,?_⟩⟩,by simp [intOf];omega⟩
   ·rw [HSS.out]
    exact⟨_,_,_,(HMI.out.step HCO.out).put xn HV.out⟩
   ·exact HNX.out.trans ((Nx.below HCO.out).trans (Nx.put (M:=M) (p:=⟨g,xn,none⟩) HG.out.1 _))
  ·have hdl:decide ((j:Int)<(E.length:Int))=false:=by simp;omega
   obtain rfl:j=E.length:=by omega
   rw [List.take_length]at HH;go_wp2
   go_end0
   exact⟨_,rfl,HH.out.2,HH.out.1⟩
end
section
open Go.RowKit
attribute [local irreducible] FreeW textFrame
def Kor (K:Nat->Bool)(b k:Nat):Bool:=K k||decide (k=b)
theorem Kor_no {K:Nat->Bool}{b k:Nat}:Kor K b k=false↔K k=false/\k≠b:=by unfold Kor;simp
theorem xzff (K:Nat->Bool)(b:Nat):Kor K b b=true:=by unfold Kor;simp
theorem Kor_or {K:Nat->Bool}{b k:Nat}(h:K k=true):Kor K b k=true:=by unfold Kor;simp [h]
theorem xzdr {K:Nat->Bool}{b s:Nat}(hK:∀ k,K k=true->k<s)(hb:b<s):∀ k,Kor K b k=true->k<s:=fun k h=>by
 unfold Kor at h;simp only [Bool.or_eq_true,decide_eq_true_eq]at h
 rcases h with h|rfl
 ·exact hK k h
 ·exact hb
theorem xzdg {M K:Nat->Bool}{W:World}{b:Nat}:Sub (hide W (MK M (Kor K b))) (hide W (MK M K)):=xzaw fun _ h1 _=>by
 rw [MK_no,Kor_no]at h1;exact⟨MK_no.2 ⟨h1.1,h1.2.1⟩,rfl⟩
theorem xzrw {M M' K:Nat->Bool}{W W':World}{b:Nat}(h:Nx M M' W W')(hb:W.heap.size<=b):Sub (hide W (MK M K)) (hide W' (MK M' (Kor K b))):=xzaw fun k h1 h2=>by
 rw [MK_no]at h1;exact⟨MK_no.2 ⟨(h.mine k h2).trans h1.1,Kor_no.2 ⟨h1.2,by omega⟩⟩,h.block k h2 h1.1⟩
theorem MkAt.sub {M K K':Nat->Bool}{W W':World}{pb:Nat}{S:Mk}{r f e m:Value}(h:MkAt M K W pb S r f e m)(hk:∀ k,k<W.heap.size->M k=true->W'.heap[k]? =W.heap[k]?)(hs:Sub (hide W (MK M K)) (hide W' (MK M K'))):MkAt M K' W' pb S r f e m:=by
 obtain⟨vs,vf,xs,h⟩:=h
 exact⟨vs,vf,xs,(hk pb h.blk.lt h.mine).trans h.blk,h.mine,xzac h.own0 fun k hk'=>hk k (World.ownsRow.lt h.own0 k hk').2 (h.far0 k hk').1,xzac h.own3 fun k hk'=>hk k (World.ownsRow.lt h.own3 k hk').2 (h.far3 k hk').1,h.far0,h.far3,
  fun i hi=>by obtain⟨x,h1,h2⟩:=h.rows i hi;exact⟨x,h1,h2.sub hs⟩⟩
theorem MkAt.new {M K:Nat->Bool}{W W':World}{pb b:Nat}{S:Mk}{r f e m:Value}(h:MkAt M K W pb S r f e m)(hb:Below W.heap.size W W')(hb2:W.heap.size<=b):MkAt M (Kor K b) W' pb S r f e m:=
 h.sub (fun k hk _=>hb.block k hk) (xzrw (Nx.below hb) hb2)
theorem MkAt.less {M K:Nat->Bool}{W:World}{pb b:Nat}{S:Mk}{r f e m:Value}(h:MkAt M (Kor K b) W pb S r f e m):MkAt M K W pb S r f e m:=h.sub (fun _ _ _=>rfl) xzdg
theorem MkAt.far {M K:Nat->Bool}{W:World}{pb b i:Nat}{S:Mk}{r f e m u:Value}(h:MkAt M K W pb S r f e m)(h1:K b=true)(h2:M b=false):MkAt M K (W.setCell ⟨b,i,none⟩ u) pb S r f e m:=
 h.sub (fun k _ hm=>Below.heap_setCell _ _ _ _ (by intro e;rw [e,h2]at hm;cases hm)) (xzbx (by unfold MK;simp [h1]) u)
theorem Nx.far {M M':Nat->Bool}{W W':World}{b i:Nat}{u:Value}(h:Nx M M' W W')(hb:W.heap.size<=b):Nx M M' W (W'.setCell ⟨b,i,none⟩ u):=
 ⟨h.os,h.tape,h.output,by rw [show(W'.setCell ⟨b,i,none⟩ u).heap.size=W'.heap.size by simp [World.setCell]];exact h.size,fun k hk hm=>(Below.heap_setCell _ _ _ _ (by show k≠b;omega)).trans (h.block k hk hm),h.mine⟩
theorem xzap {M K:Nat->Bool}{W:World}{b i:Nat}(h:K b=true)(u:Value):Sub (hide W (MK M K)) (hide (W.setCell ⟨b,i,none⟩ u) (MK M K)):=xzbx (by unfold MK;simp [h]) u
structure ThenI (M K:Nat->Bool)(w W:World)(pb:Nat)(S:Mk)(r f e m:Value)(b b':Nat)(p q:Prt)(p1 p2 q1 q2:Value)(A1 A2:List Int)(a1 a2 a3:Value):Prop where
 at0:BlkIs W b 73 #[p1,p2,.bool p.empty]
 at1:BlkIs W (b+1) 73 #[q1,q2,.bool q.empty]
 at2:BlkIs W (b+2) 73 #[.slice none 0 0,.slice none 0 0,.bool false]
 at3:BlkIs W b' 73 #[a1,a2,a3]
 mkr:MkAt M (Kor (Kor K (b+2)) b') W pb S r f e m
 nx:Nx M M w W
 r0:IntsV (hide W (MK M (Kor (Kor K (b+2)) b'))) p.first p1
 r1:IntsV (hide W (MK M (Kor (Kor K (b+2)) b'))) p.ends p2
 r2:IntsV (hide W (MK M (Kor (Kor K (b+2)) b'))) q.first q1
 r3:IntsV (hide W (MK M (Kor (Kor K (b+2)) b'))) q.ends q2
 r4:IntsV (hide W (MK M (Kor (Kor K (b+2)) b'))) A1 a1
 r5:IntsV (hide W (MK M (Kor (Kor K (b+2)) b'))) A2 a2
theorem ThenI.step {M K:Nat->Bool}{w W W':World}{pb:Nat}{S:Mk}{r f e m:Value}{b b':Nat}{p q:Prt}{p1 p2 q1 q2:Value}{A1 A2:List Int}{a1 a2 a3:Value}(h:ThenI M K w W pb S r f e m b b' p q p1 p2 q1 q2 A1 A2 a1 a2 a3)
 (hb:Below W.heap.size W W'):ThenI M K w W' pb S r f e m b b' p q p1 p2 q1 q2 A1 A2 a1 a2 a3:=
 ⟨h.at0.step hb,h.at1.step hb,h.at2.step hb,h.at3.step hb,h.mkr.step hb,h.nx.trans (Nx.below hb),h.r0.sub (xzad _ hb),h.r1.sub (xzad _ hb),h.r2.sub (xzad _ hb),h.r3.sub (xzad _ hb),h.r4.sub (xzad _ hb),h.r5.sub (xzad _ hb)⟩
theorem ThenI.put {M K:Nat->Bool}{w W:World}{pb:Nat}{S:Mk}{r f e m:Value}{b b':Nat}{p q:Prt}{p1 p2 q1 q2:Value}{A1 A2 X:List Int}{a1 a2 a3 x:Value}(h:ThenI M K w W pb S r f e m b b' p q p1 p2 q1 q2 A1 A2 a1 a2 a3)
 (hw:w.heap.size<=b)(hb:b+2<b')(hM:M b'=false)(hx:IntsV (hide W (MK M (Kor (Kor K (b+2)) b'))) X x):
 ThenI M K w (W.setCell ⟨b',0,none⟩ x) pb S r f e m b b' p q p1 p2 q1 q2 X A2 x a2 a3/\ThenI M K w (W.setCell ⟨b',1,none⟩ x) pb S r f e m b b' p q p1 p2 q1 q2 A1 X a1 x a3:=by
 have hk:=xzff (Kor K (b+2)) b'
 have hs:=fun i=>xzap (M:=M) (W:=W) (i:=i) hk x
 exact⟨⟨h.at0.far (by show b≠b';omega) _,h.at1.far (by show b+1≠b';omega) _,h.at2.far (by show b+2≠b';omega) _,h.at3.put 0 x,h.mkr.far hk hM,h.nx.far (by omega),h.r0.sub (hs 0),h.r1.sub (hs 0),h.r2.sub (hs 0),h.r3.sub (hs 0),hx.sub (hs 0),h.r5.sub (hs 0)⟩,
  ⟨h.at0.far (by show b≠b';omega) _,h.at1.far (by show b+1≠b';omega) _,h.at2.far (by show b+2≠b';omega) _,h.at3.put 1 x,h.mkr.far hk hM,h.nx.far (by omega),h.r0.sub (hs 1),h.r1.sub (hs 1),h.r2.sub (hs 1),h.r3.sub (hs 1),h.r4.sub (hs 1),hx.sub (hs 1)⟩⟩
theorem ThenI.put2 {M K:Nat->Bool}{w W:World}{pb:Nat}{S:Mk}{r f e m:Value}{b b':Nat}{p q:Prt}{p1 p2 q1 q2:Value}{A1 A2:List Int}{a1 a2 a3:Value}(h:ThenI M K w W pb S r f e m b b' p q p1 p2 q1 q2 A1 A2 a1 a2 a3)
 (hw:w.heap.size<=b)(hb:b+2<b')(hM:M b'=false)(x:Value):ThenI M K w (W.setCell ⟨b',2,none⟩ x) pb S r f e m b b' p q p1 p2 q1 q2 A1 A2 a1 a2 x:=by
 have hk:=xzff (Kor K (b+2)) b';have hs:=xzap (M:=M) (W:=W) (i:=2) hk x;exact⟨h.at0.far (by show b≠b';omega) _,h.at1.far (by show b+1≠b';omega) _,h.at2.far (by show b+2≠b';omega) _,h.at3.put 2 x,h.mkr.far hk hM,h.nx.far (by omega),h.r0.sub hs,h.r1.sub hs,h.r2.sub hs,h.r3.sub hs,h.r4.sub hs,h.r5.sub hs⟩
theorem ThenI.fin {M K:Nat->Bool}{w W:World}{pb:Nat}{S:Mk}{r f e m:Value}{b b':Nat}{p q:Prt}{p1 p2 q1 q2:Value}{A1 A2:List Int}{a1 a2:Value}{z:Bool}(h:ThenI M K w W pb S r f e m b b' p q p1 p2 q1 q2 A1 A2 a1 a2 (.bool z))
 (hw:w.heap.size<=b)(hM:M (b+2)=false):
 (loadVar 73 ⟨b+2,0,none⟩).run Try.prog (((W.setCell ⟨b+2,0,none⟩ a1).setCell ⟨b+2,1,none⟩ a2).setCell ⟨b+2,2,none⟩ (.bool z))=.ok (.agg #[a1,a2,.bool z]) (((W.setCell ⟨b+2,0,none⟩ a1).setCell ⟨b+2,1,none⟩ a2).setCell ⟨b+2,2,none⟩ (.bool z))/\
 Nx M M w (((W.setCell ⟨b+2,0,none⟩ a1).setCell ⟨b+2,1,none⟩ a2).setCell ⟨b+2,2,none⟩ (.bool z))/\
 MkAt M K (((W.setCell ⟨b+2,0,none⟩ a1).setCell ⟨b+2,1,none⟩ a2).setCell ⟨b+2,2,none⟩ (.bool z)) pb S r f e m/\
 PrtV (hide (((W.setCell ⟨b+2,0,none⟩ a1).setCell ⟨b+2,1,none⟩ a2).setCell ⟨b+2,2,none⟩ (.bool z)) (MK M K)) ⟨A1,A2,z⟩ (.agg #[a1,a2,.bool z]):=by
 have hk:Kor (Kor K (b+2)) b' (b+2)=true:=Kor_or (xzff K (b+2));have hs:=((((xzap (M:=M) (W:=W) (i:=0) hk a1).trans (xzap (M:=M) (i:=1) hk a2)).trans (xzap (M:=M) (i:=2) hk (.bool z))).trans xzdg).trans xzdg;exact⟨xzcd (xzbs h.at2),((h.nx.far (by omega)).far (by omega)).far (by omega),(((h.mkr.far hk hM).far hk hM).far hk hM).less.less,_,_,rfl,h.r4.sub hs,h.r5.sub hs⟩
end
end Go.Proofs.Ythoaaginadjaoaa
