/-
 WHAT nfa's merged ANSWERS: a contract. Condition: both rows together have at most 2^30 numbers.
-/
import Derived.Test.YtdjpphjpnkfeiaaGreatDoorQG17
import Derived.Test.YtdjpphjpnkfeiaaGreatDoorQG07
namespace Go.Proofs.YtdjpphjpnkfeiaaGreatDoor
section
open Go.RowKit
attribute [local irreducible] FreeW
theorem yzak (n:Nat)(h:n<=1099511627776)(w:World):(Instr.makeSlice 26 (.int .i64 0) (.int .i64 (n:Nat))).run Tryz.prog w=.ok (.slice (some ⟨w.heap.size,0,none⟩) 0 n) (w.alloc (.cells (madeCells #[.int .i64 0] n) 3)):=by
 obtain⟨i0,hi0,hz0,hz1,hz2⟩:=info_parts xzdi;have hr:=run_make (P:=Tryz.prog) w 26 3 i0 (.int .i64 0) Tryz.underlying26 hi0 hz0 .i64 .i64 0 n (by omega) (by omega) (by rw [hz2];omega) (by omega);simp only [hz1,Int.toNat_natCast,Nat.mul_one]at hr;exact hr
theorem RowI.room (B:Nat)(w:World)(n:Nat)(hB:B<=w.heap.size)(hn:n<=1099511627776):RowI B (w.alloc (.cells (madeCells #[.int .i64 0] n) 3)) (.slice (some ⟨w.heap.size,0,none⟩) 0 n) []:=
 World.ownsRow_made w _ n hB (by unfold maxLen;omega) (by rw [xzgb];omega)
theorem RowI.pushes {B:Nat}{W:World}{v:Value}{l:List Int}(h:RowI B W v l)(hB:B<=W.heap.size){b:List Int}{g o c:Nat}(hb:RunAt W b g o c)(hl:l.length+b.length<=1099511627776):
 ∃ v' W',(Builtin.append_ #[26,26] 26 #[v,.slice (some ⟨g,o,none⟩) b.length c]).run Tryz.prog W=.ok v' W'/\RowI B W' v' (l++b)/\W.grownBy W' v.ownBlock:=by
 obtain⟨i0,hi0,hz0,hz1,hz2⟩:=info_parts xzdi
 obtain⟨v',W',hr,hown,hgr,_,_⟩:=run_append_own_at (P:=Tryz.prog) (w:=W) B 26 26 3 i0 (.int .i64 0) 1 8 Tryz.underlying26 hi0 hz0 hz1 hz2 rfl (by decide) v l.length _ h
  ⟨g,o,none⟩ b.length c (b.map (Value.int .i64)) (by simp) (fun j u hu=>by
   rw [List.getElem?_map]at hu
   cases e:b[j]? with
   |none=>rw [e]at hu;cases hu
   |some x=>
    rw [e]at hu;obtain⟨hj,rfl⟩:=List.getElem?_eq_some_iff.1 e;rw [Addr.add_lit]
    exact(hb.2 j hj).trans hu) (yzaj b) (by unfold maxLen;omega) (by omega) hB
 refine⟨v',W',hr,?_,hgr⟩;unfold RowI;rw [List.map_append,List.length_append];exact hown
theorem xzro {W:World}{a b:List Int}{g o g' o' c':Nat}(ha:RunAt W a g o a.length)(hb:RunAt W b g' o' c')(hne:b≠[])(hl:a.length+b.length<=1099511627776):
 ∃ v' W',(Builtin.append_ #[26,26] 26 #[.slice (some ⟨g,o,none⟩) a.length a.length,.slice (some ⟨g',o',none⟩) b.length c']).run Tryz.prog W=.ok v' W'/\RowI W.heap.size W' v' (a++b)/\Below W.heap.size W W':=by
 obtain⟨i0,hi0,hz0,hz1,hz2⟩:=info_parts xzdi;have hlb:=List.length_pos_iff.2 hne
 have hcl:∀ (l:List Int) (p q c:Nat),RunAt W l p q c->∀ j u,(l.map (Value.int .i64))[j]? =some u->W.cell? ((⟨p,q,none⟩:Addr).add j)=some u:=fun l p q c h j u hu=>by
  rw [List.getElem?_map]at hu
  cases e:l[j]? with
  |none=>rw [e]at hu;cases hu
  |some x=>
   rw [e]at hu;obtain⟨hj,rfl⟩:=List.getElem?_eq_some_iff.1 e;rw [Addr.add_lit];exact(h.2 j hj).trans hu
 have hr:=run_append_grow (P:=Tryz.prog) W 26 26 3 i0 (.int .i64 0) Tryz.underlying26 hi0 hz0 ⟨g,o,none⟩ a.length a.length (a.map (Value.int .i64)) (by simp [hz1]) (hcl a g o _ ha) ⟨g',o',none⟩ b.length c' (b.map (Value.int .i64)) (by simp [hz1]) (hcl b g' o' _ hb) (by omega) (by omega)
  (growslice_fits (by omega) (by rw [hz2];omega))
 have hge:=grownCap_ge W (a.length+b.length) a.length 3;have hcm:=grownCap_le_maxLen W (a.length+b.length) a.length 3 (by unfold maxLen;omega);refine⟨_,_,hr,⟨by simp,.inr ⟨W.heap.size,_,_,by rw [List.length_append],Nat.le_refl _,heap_alloc_new W.drew _,?_,hcm,?_,?_⟩⟩,((Below.refl _ W).drew).alloc (Nat.le_refl _) _⟩
 ·rw [List.length_append];exact hge
 ·simp only [Array.size_append,List.size_toArray,List.length_map,size_zeroCells]
  rw [show(Value.int IntKind.i64 0).cells.size=1 from rfl];omega
 ·simp only [Array.toList_append,List.append_assoc]
  rw [<-List.append_assoc,List.map_append,List.length_append,Nat.mul_one];rw [List.take_left' (by simp)]
theorem xzrp {n:Nat}{x y:Int}{a b:List Int}(h:(x::a).length+(y::b).length<=n):∃ n',mergeN n (x::a) (y::b)=(if y<x then y else x)::mergeN n' (behindL (if y<x then y else x) (x::a)) (behindL (if y<x then y else x) (y::b))/\
 (behindL (if y<x then y else x) (x::a)).length+(behindL (if y<x then y else x) (y::b)).length<=n'/\(behindL (if y<x then y else x) (x::a)).length+(behindL (if y<x then y else x) (y::b)).length<(x::a).length+(y::b).length:=by
 obtain⟨m,rfl⟩:∃ m,n=m+1:=⟨n - 1,by simp only [List.length_cons]at h;omega⟩;refine⟨m,?_⟩;simp only [List.length_cons]at h
 rcases Int.lt_trichotomy x y with h1|h1|h1
 ·have e1: ¬ y<x:=by omega
  have e2: ¬ y=x:=by omega
  simp [mergeN,behindL,h1,e1,e2];omega
 ·subst h1
  simp [mergeN,behindL];omega
 ·have e1: ¬ x<y:=by omega
  have e2: ¬ x=y:=by omega
  simp [mergeN,behindL,h1,e1,e2];omega
theorem xzjk {w W:World}{K:Nat->Bool}{l:List Int}{g o c:Nat}(h:RunAt (hide w K) l g o c)(hb:Below w.heap.size w W):RunAt W l g o c:=
 (h.sub xzba).sub fun p _ hu=>(hb.cell (World.block_lt_of_cell? w p hu)).trans hu
theorem xzar {B:Nat}{a w:World}(h:Below B a w)(m:Nat):Below B a (w.drewN m):=⟨h.os,h.tape,h.output,h.size,h.block⟩
theorem yzes {a:List Int}(_:a≠[]):∀ (hh:a.length - 1<a.length),a[a.length - 1]=a.getLastD 0:=by
 intro hh;rw [List.getLastD_eq_getLast?,List.getLast?_eq_getElem?]
 simp [hh]
set_option maxRecDepth 20000 in
set_option maxHeartbeats 8000000 in
theorem xzco (a b:List Int)(va vb:Value)(w:World)(K:Nat->Bool)(hK:∀ k,K k=true->k<w.heap.size)(ha:IntsV (hide w K) a va)(hb:IntsV (hide w K) b vb)(hn:a.length+b.length<=1073741824):
 Calls Tryz.prog 115 #[va,vb] w fun e w'=>∃ v',e=.returned v'/\IntsV (hide w' K) (mergedL a b) v'/\Below w.heap.size w w':=by
 by_cases hae:a=[]
 ·subst hae
  obtain⟨A,c,rfl,_,_⟩:=ha;have HF:=zd (show IntsV (hide w K) (mergedL [] b) vb by simp only [mergedL,if_pos];exact hb);clear hb
  go_enter Tryz.func115,Tryz.ntmps115
  go_wp2;go_ret;exact⟨_,rfl,HF.out,Below.refl _ _⟩
 ·have hla:=List.length_pos_iff.2 hae
  obtain⟨g1,o1,c1,rfl,hra⟩:=ha.run hae
  have za:((a.length:Int)==0)=false:=by simp;omega
  by_cases hbe:b=[]
  ·subst hbe
   obtain⟨A,c,rfl,_,_⟩:=hb;have HF:=zd (show IntsV (hide w K) (mergedL a []) (.slice (some ⟨g1,o1,none⟩) a.length c1)by unfold mergedL;rw [if_neg hae,if_pos rfl];exact ha);clear ha hra
   go_enter Tryz.func115,Tryz.ntmps115
   go_wp2;go_ret;exact⟨_,rfl,HF.out,Below.refl _ _⟩
  ·have hlb:=List.length_pos_iff.2 hbe
   obtain⟨g2,o2,c2,rfl,hrb⟩:=hb.run hbe
   have zb:((b.length:Int)==0)=false:=by simp;omega
   have hk1:IntKind.i64.wrap ((a.length:Int) - 1)=((a.length - 1:Nat):Int):=by rw [IntKind.wrap_i64];omega
   have hi1:((a.length - 1:Nat):Int)<(a.length:Int):=by omega
   have hi2:(0:Int)<(b.length:Int):=by omega
   have hca:=xzba _ _ (hra.2 (a.length - 1) (by omega));rw [yzes hae]at hca;have hcb:=xzba _ _ (hrb.2 0 hlb)
   have hbh:b[0]=b.headD 0:=by cases b with|nil=>exact absurd rfl hbe|cons y b=>rfl
   rw [hbh,Nat.add_zero]at hcb;have hcap:=hra.1
   by_cases hlt:a.getLastD 0<b.headD 0
   ·have HF:=zd (show mergedL a b=a++b by unfold mergedL;rw [if_neg hae,if_neg hbe,if_pos hlt])
    have hd1:decide (a.getLastD 0<b.headD 0)=true:=by simpa using hlt
    have HRA:=zd hra;have HRB:=zd hrb;have HBE:=zd hbe;have HK:=zd hK;clear ha hb hra hrb hbh hlt hae hbe hK;generalize a.getLastD 0=x at*;generalize b.headD 0=y at*
    go_enter Tryz.func115,Tryz.ntmps115
    go_wp2
    go_quiet (fail)
    have hbd:Below w.heap.size w (w.drewN nq):=xzar (Below.refl _ _) nq;obtain⟨v',W',hrun,hri,hbw⟩:=xzro (W:=w.drewN nq) (xzjk ⟨⟨Nat.le_refl _,by omega⟩,HRA.out.2⟩ hbd) (xzjk HRB.out hbd) HBE.out (by omega);have HU:=zd (And.intro hri hbw);clear hri hbw
    go_wp2_with(refine xzan rfl _ _ 26 26 rfl rfl rfl hrun ?_)
    go_ret
    exact⟨_,rfl,by rw [HF.out];exact HU.out.1.show (fun k hk=>by
     rw [Bool.eq_false_iff];intro e;have:=HK.out k e;have:w.heap.size<=k:=hk;omega),hbd.trans HU.out.2⟩
   ·have hd1:decide (a.getLastD 0<b.headD 0)=false:=by simpa using hlt
    have HF:=zd (show mergedL a b=mergeN (a.length+b.length) a b by unfold mergedL;rw [if_neg hae,if_neg hbe,if_neg hlt]);rw [HF.out];obtain⟨R,hR⟩:∃ R,R=mergeN (a.length+b.length) a b:=⟨_,rfl⟩;rw [<-hR]
    have hk0:IntKind.i64.wrap ((a.length:Int)+(b.length:Int))=((a.length+b.length:Nat):Int):=by rw [IntKind.wrap_i64];omega
    have hmk:=fun u=>yzak (a.length+b.length) (by omega) u
    simp only [Int.natCast_add]at hmk;have H0:=zd (show(RunAt (hide w K) a g1 o1 c1/\RunAt (hide w K) b g2 o2 c2)/\(∃ n,a.length+b.length<=n/\R=[]++mergeN n a b)from⟨⟨hra,hrb⟩,_,Nat.le_refl _,by simpa using hR⟩);have HK:=zd hK;have HRO:=zd (fun u (h:w.heap.size<=u.heap.size)=>RowI.room w.heap.size u (a.length+b.length) h (by omega));clear ha hb hra hrb hbh hlt hae hbe hK hR HF;generalize a.getLastD 0=x at*;generalize b.headD 0=y at*
    go_enter Tryz.func115,Tryz.ntmps115
    go_wp2
    go_quiet (fail)
    go_wp2;have HW:=zd (And.intro (HRO.out (w.drewN nq) (Nat.le_refl _)) ((xzar (Below.refl w.heap.size w) nq).alloc (Nat.le_refl _) (.cells (madeCells #[Value.int .i64 0] (a.length+b.length)) 3)));clear hca hcb HRO hmk
    go_loopw [0,1,5] (fun s0 s1 s5 wr=>∃ (a' b' l:List Int) (p1 q1 d1 p2 q2 d2:Nat),s0=.slice (some ⟨p1,q1,none⟩) a'.length d1/\s1=.slice (some ⟨p2,q2,none⟩) b'.length d2/\l.length+(a'.length+b'.length)<=a.length+b.length/\
     Hid ((RowI w.heap.size wr s5 l/\Below w.heap.size w wr)/\(RunAt (hide w K) a' p1 q1 d1/\RunAt (hide w K) b' p2 q2 d2)/\∃ n,a'.length+b'.length<=n/\R=l++mergeN n a' b')) (fun s0 s1 _ _=>lenV s0+lenV s1)
    case atStart=>exact⟨a,b,[],g1,o1,c1,g2,o2,c2,rfl,rfl,by simp,zd ⟨HW.out,H0.out⟩⟩
    case round=>
     obtain⟨a',b',l,p1,q1,d1,p2,q2,d2,rfl,rfl,hlen,HH⟩:=hrel;clear hcap hi1 hi2 hk1 hk0 za zb hd1 hla hlb HW H0
     cases a' with
     |nil=>
      have HR:=zd (show R=l++[]++b' by
       obtain⟨n,hn',hR⟩:=HH.out.2.2
       rw [hR,xzvg];simp)
      obtain⟨v1,W1,hrun1,hri1,hgr1⟩:=HH.out.1.1.pushes HH.out.1.2.size (xzjk HH.out.2.1.1 HH.out.1.2) (by simp only [List.length_nil]at hlen ⊢;omega)
      have hb1:Below w.heap.size w W1:=HH.out.1.2.grown hgr1 HH.out.1.2.size fun k hk=>(World.ownsRow.lt HH.out.1.1 k hk).1
      obtain⟨v2,W2,hrun2,hri2,hgr2⟩:=hri1.pushes hb1.size (xzjk HH.out.2.1.2 hb1) (by simp only [List.length_nil,List.length_append]at hlen ⊢;omega)
      have hb2:Below w.heap.size w W2:=hb1.grown hgr2 hb1.size fun k hk=>(World.ownsRow.lt hri1 k hk).1
      have HV:=zd (And.intro hri2 hb2);clear hri1 hgr1 hri2 hgr2 hb1 hb2;simp only [List.length_nil]at hrun1 hrun2 hlen ⊢
      go_wp2_with(first|(refine xzan rfl _ _ 26 26 rfl rfl rfl hrun1 ?_)|(refine xzan rfl _ _ 26 26 rfl rfl rfl hrun2 ?_))
      go_ret
      exact⟨_,rfl,by rw [HR.out];exact HV.out.1.show (fun k hk=>by
       rw [Bool.eq_false_iff];intro e;have:=HK.out k e;omega),HV.out.2⟩
     |cons x a'=>
      cases b' with
      |nil=>
       have HR:=zd (show R=l++(x::a')++[]by
        obtain⟨n,hn',hR⟩:=HH.out.2.2
        rw [hR,xzrn];simp)
       obtain⟨v1,W1,hrun1,hri1,hgr1⟩:=HH.out.1.1.pushes HH.out.1.2.size (xzjk HH.out.2.1.1 HH.out.1.2) (by simp only [List.length_cons,List.length_nil]at hlen ⊢;omega)
       have hb1:Below w.heap.size w W1:=HH.out.1.2.grown hgr1 HH.out.1.2.size fun k hk=>(World.ownsRow.lt HH.out.1.1 k hk).1
       obtain⟨v2,W2,hrun2,hri2,hgr2⟩:=hri1.pushes hb1.size (xzjk HH.out.2.1.2 hb1) (by simp only [List.length_cons,List.length_nil,List.length_append]at hlen ⊢;omega)
       have hb2:Below w.heap.size w W2:=hb1.grown hgr2 hb1.size fun k hk=>(World.ownsRow.lt hri1 k hk).1
       have HV:=zd (And.intro hri2 hb2);clear hri1 hgr1 hri2 hgr2 hb1 hb2;simp only [List.length_cons,List.length_nil]at hrun1 hrun2 hlen ⊢
       have g1:decide (((a'.length+1:Nat):Int)>0)=true:=by simp
       go_wp2_with(first|(refine xzan rfl _ _ 26 26 rfl rfl rfl hrun1 ?_)|(refine xzan rfl _ _ 26 26 rfl rfl rfl hrun2 ?_))
       go_ret
       exact⟨_,rfl,by rw [HR.out];exact HV.out.1.show (fun k hk=>by
        rw [Bool.eq_false_iff];intro e;have:=HK.out k e;omega),HV.out.2⟩
      |cons y b'=>
       have HCELL:=zd (fun u (hu:Below wr.heap.size wr u)=>And.intro (((HH.out.1.2.trans (hu.mono HH.out.1.2.size)).cell (World.block_lt_of_cell? w _ (xzba _ _ (HH.out.2.1.1.2 0 (by simp))))).trans (xzba _ _ (HH.out.2.1.1.2 0 (by simp))))
        (((HH.out.1.2.trans (hu.mono HH.out.1.2.size)).cell (World.block_lt_of_cell? w _ (xzba _ _ (HH.out.2.1.2.2 0 (by simp))))).trans (xzba _ _ (HH.out.2.1.2.2 0 (by simp)))))
       obtain⟨n,hn',hR⟩:=HH.out.2.2;obtain⟨n2,hm1,hm2,hm3⟩:=xzrp hn';rw [hm1]at hR;have hca:=HH.out.2.1.1.1;have hcb:=HH.out.2.1.2.1;have HB1:=zd (fun u=>xzmi x a' p1 q1 d1 (if y<x then y else x) u (hide w K) HH.out.2.1.1);have HB2:=zd (fun u=>xzmi y b' p2 q2 d2 (if y<x then y else x) u (hide w K) HH.out.2.1.2);have HS:=zd (And.intro (And.intro HH.out.2.1.1 HH.out.2.1.2) hR);simp only [List.length_cons,List.getElem_cons_zero,Nat.add_zero]at HCELL hca hcb hm3 hlen;simp only [List.length_cons];clear hn' hR hm1
       have g1:decide (((a'.length+1:Nat):Int)>0)=true:=by simp
       have g2:decide (((b'.length+1:Nat):Int)>0)=true:=by simp
       obtain⟨p,hp⟩:∃ p,p=(if y<x then y else x):=⟨_,rfl⟩;rw [<-hp]at HB1 HB2 HS hm2 hm3;have hp2:=hp.symm;clear hp
       go_wp2_with fail
       refine xzit 72 (fun u=>Hid (Below wr.heap.size wr u)) (by kernel_rfl) (by kernel_rfl) rfl (zd (Below.refl _ _).drew) (fun u u' h hb=>zd (h.out.trans (hb.mono h.out.size))) ?_
       repeat
        refine xzsx fun K hK=>?_
        (first
         |skip)
        go_simp
        apply Exists.intro
        refine⟨fun u h1=>?_,hK _ ?_⟩
        ·obtain⟨y0,y1⟩:=HCELL.out u h1.out
         unfold freeAt;go_simp
         first
          |exact yzdf
          |(apply xzyg
            first
             |fail
            )
        clear hK K
       refine xzyh ?_;intro u hC hb2;have hwu:=hC.out;have HB0:=zd (HH.out.1.2.trans (hwu.mono HH.out.1.2.size));have HL:=zd (HH.out.1.1.step hwu);obtain⟨v',W',hrun,hri,hgr⟩:=HL.out.push HB0.out.size p (by omega);have HV:=zd (And.intro hri (HB0.out.trans hgr));clear hC hb2 hri hgr hwu
       go_wp2_with(refine xzan rfl _ _ 26 26 rfl rfl rfl hrun ?_)
       have hsb:Sub (hide w K) W':=fun p _ hu=>(HV.out.2.cell (World.block_lt_of_cell? w p (xzba _ _ hu))).trans (xzba _ _ hu)
       refine(HB1.out W' hsb).mono ?_;rintro e u1 ⟨pa,qa,da,rfl,hra,rfl⟩;have HRA:=zd hra;clear hra
       go_wp2_with fail
       go_at_call 129
       refine(HB2.out _ hsb).mono ?_;rintro e u1 ⟨pb,qb,db,rfl,hrb,rfl⟩;have HRB:=zd hrb;have HSB:=zd hm2;clear hrb hm2;generalize behindL p (x::a')=aa at*;generalize behindL p (y::b')=bb at*;go_wp2;refine⟨⟨aa,bb,l++[p],pa,qa,da,pb,qb,db,rfl,rfl,?_,zd ⟨HV.out,⟨HRA.out,HRB.out⟩,n2,HSB.out,by rw [HS.out.2];simp⟩⟩,?_⟩
       ·rw [List.length_append,List.length_singleton];omega
       ·simp only [lenV];omega
end
section
open Go.RowKit
attribute [local irreducible] FreeW
def KB (K:Nat->Bool)(B n k:Nat):Bool:=K k||(decide (B<=k)&&decide (k<B+n))
theorem KB_no {K:Nat->Bool}{B n k:Nat}:KB K B n k=false↔K k=false/\(k<B\/B+n<=k):=by
 unfold KB;simp only [Bool.or_eq_false_iff,Bool.and_eq_false_iff,decide_eq_false_iff_not,Nat.not_le,Nat.not_lt]
theorem yzal {K:Nat->Bool}{B n k:Nat}(h1:B<=k)(h2:k<B+n):KB K B n k=true:=by unfold KB;simp [h1,h2]
theorem KB_lt {K:Nat->Bool}{B n s:Nat}(hK:∀ k,K k=true->k<B)(hs:B+n<=s):∀ k,KB K B n k=true->k<s:=fun k h=>by
 by_cases hk:K k=true
 ·have:=hK k hk;omega
 ·unfold KB at h
  simp only [Bool.or_eq_true,Bool.and_eq_true,decide_eq_true_eq]at h
  rcases h with h|h
  ·exact absurd h hk
  ·omega
theorem xzcp {K:Nat->Bool}{W:World}{p:Addr}(hp:K p.block=true)(u:Value):Sub (hide W K) (hide (W.setCell p u) K):=xzbf fun k h1 _=>⟨h1,Below.heap_setCell _ _ _ _ (by intro e;rw [e,hp]at h1;cases h1)⟩
theorem KB_sub {K:Nat->Bool}{W:World}{B n:Nat}:Sub (hide W (KB K B n)) (hide W K):=xzbf fun _ h1 _=>⟨(KB_no.1 h1).1,rfl⟩
theorem KB_up {K:Nat->Bool}{W W':World}{B n:Nat}(hB:W.heap.size<=B)(hb:Below W.heap.size W W'):Sub (hide W K) (hide W' (KB K B n)):=xzbf fun k h1 h2=>⟨KB_no.2 ⟨h1,.inl (by omega)⟩,hb.block k h2⟩
def PrtsAt (V W:World)(l:List Prt)(v:Value):Prop:=∃ A c,v=.slice A l.length c/\(l.length<=c/\c<=9223372036854775807)/\
 (l≠[]->∃ b o,A=some ⟨b,o,none⟩/\∀ (i:Nat) (h:i<l.length),∃ v1 v2,W.cell? ⟨b,o+i*3,none⟩=some v1/\W.cell? ⟨b,o+i*3+1,none⟩=some v2/\W.cell? ⟨b,o+i*3+2,none⟩=some (.bool l[i].empty)/\IntsV V l[i].first v1/\IntsV V l[i].ends v2)
theorem three {w:World}{g:Nat}{t:TypeId}{a b c:Value}(h:BlkIs w g t #[a,b,c]):w.cell? ⟨g,0,none⟩=some a/\w.cell? ⟨g,1,none⟩=some b/\w.cell? ⟨g,2,none⟩=some c/\
 w.frozen? ⟨g,0,none⟩=false/\w.frozen? ⟨g,1,none⟩=false/\w.frozen? ⟨g,2,none⟩=false:=⟨h.cell 0,h.cell 1,h.cell 2,h.frozen 0,h.frozen 1,h.frozen 2⟩
theorem xzvk:(Tryz.prog.info? 149).map (·.size)=some 3:=by kernel_rfl
theorem xzez {w:World}{g:Nat}{t:TypeId}{a b c:Value}(h:BlkIs w g t #[a,b,c]):(loadVar 149 ⟨g,0,none⟩).run Tryz.prog w=.ok (.agg #[a,b,c]) w:=
 run_loadVar_mid (P:=Tryz.prog) w g 0 149 [a,b,c] _ h.range Tryz.underlying149 rfl xzvk
theorem xzeb {w:World}{g:Nat}{t:TypeId}{a b c x y z:Value}(h:BlkIs w g t #[a,b,c]):BlkIs (((w.setCell ⟨g,0,none⟩ x).setCell ⟨g,1,none⟩ y).setCell ⟨g,2,none⟩ z) g t #[x,y,z]:=((h.put 0 x).put 1 y).put 2 z
set_option maxRecDepth 20000 in
set_option maxHeartbeats 8000000 in
theorem xzvl (l:List Prt)(v:Value)(w:World)(K:Nat->Bool)(n:Nat)(hK:∀ k,K k=true->k<w.heap.size)(hv:PrtsAt (hide w K) w l v)(hok:∀ p∈l,p.Ok n)(hn:n<=1048576):
 Calls Tryz.prog 99 #[v] w fun e w'=>∃ v',e=.returned v'/\PrtV (hide w' K) (eitherP ⟨[],[],false⟩ l) v'/\Below w.heap.size w w':=by
 obtain⟨A,c,rfl,hc,hs⟩:=hv;have HS:=zd hs;have hb1:Below w.heap.size w (w.alloc (.cells #[.slice none 0 0,.slice none 0 0,.bool false] 149)):=(Below.refl _ _).alloc (Nat.le_refl _) _;have hx1:=BlkIs.new w 149 #[.slice none 0 0,.slice none 0 0,.bool false];have hb2:=hb1.alloc hb1.size (.cells #[.slice none 0 0,.slice none 0 0,.bool false] 149);have hx2:=BlkIs.new (w.alloc (.cells #[.slice none 0 0,.slice none 0 0,.bool false] 149)) 149 #[.slice none 0 0,.slice none 0 0,.bool false];have hx1':=hx1.alloc (.cells #[.slice none 0 0,.slice none 0 0,.bool false] 149);rw [World.size_alloc]at hx2;have H0:=zd (And.intro hb2 (And.intro hx1' hx2));have HOK:=zd (fun j=>(show(eitherP ⟨[],[],false⟩ (l.take j)).Ok n from xzhx _ (Prt.Ok.nil _ _) fun p hp=>hok p (List.mem_of_mem_take hp)));have HOJ:=zd (fun(j:Nat) (h:j<l.length)=>hok _ (List.getElem_mem h));have HK:=zd hK;clear hs hb1 hx1 hb2 hx2 hx1' hok hK
 go_enter Tryz.func99,Tryz.ntmps99
 go_wp2
 go_loopw [8] (fun i wr=>∃ j:Nat,i=.int .i64 j/\j<=l.length/\Hid (∃ a1 a2,Below w.heap.size w wr/\BlkIs wr w.heap.size 149 #[.slice none 0 0,.slice none 0 0,.bool false]/\
  BlkIs wr (w.heap.size+1) 149 #[a1,a2,.bool (eitherP ⟨[],[],false⟩ (l.take j)).empty]/\IntsV (hide wr (KB K w.heap.size 2)) (eitherP ⟨[],[],false⟩ (l.take j)).first a1/\IntsV (hide wr (KB K w.heap.size 2)) (eitherP ⟨[],[],false⟩ (l.take j)).ends a2)) (fun i _=>l.length - (intOf i).toNat)
 case atStart=>exact⟨0,rfl,Nat.zero_le _,zd ⟨_,_,H0.out.1,H0.out.2.1,H0.out.2.2,IntsV.nil _,IntsV.nil _⟩⟩
 case round=>
  obtain⟨j,rfl,hj,HH⟩:=hrel;obtain⟨a1,a2,hw,hx1,hx2,hr1,hr2⟩:=HH.out;obtain⟨d0,d1,d2,f0,f1,f2⟩:=three hx2
  by_cases hp:j<l.length
  ·have hk1:IntKind.i64.wrap ((j:Int)+1)=((j+1:Nat):Int):=by rw [IntKind.wrap_i64];omega
   have hdl:decide ((j:Int)<(l.length:Int))=true:=by simp;omega
   obtain⟨b,o,rfl,hg⟩:=HS.out (by intro e;subst e;simp at hp);obtain⟨q1,q2,hq0,hq1,hq2,hi1,hi2⟩:=hg j hp
   have hcl:=fun p u (hu:w.cell? p=some u)=>(hw.cell (World.block_lt_of_cell? w p hu)).trans hu
   have c0:=hcl _ _ hq0;have c1:=hcl _ _ hq1;have c2:=hcl _ _ hq2;have hso:=HOK.out j;have hs1:=HOK.out (j+1);have hpo:=HOJ.out j hp
   have hsn:eitherP ⟨[],[],false⟩ (l.take (j+1))=orP (eitherP ⟨[],[],false⟩ (l.take j)) l[j]:=by rw [List.take_succ_eq_append_getElem hp,xzhy]
   generalize eitherP ⟨[],[],false⟩ (l.take j)=E at*;generalize l[j]=P at*;have HR:=zd (And.intro (And.intro hr1 hr2) (And.intro hi1 hi2));obtain⟨X1,z1,rfl,_⟩:=hi1;obtain⟨X2,z2,rfl,_⟩:=hi2;obtain⟨X3,z3,rfl,_⟩:=hr1;obtain⟨X4,z4,rfl,_⟩:=hr2;obtain⟨W9,hW9⟩:∃ W9,wr.alloc (.cells #[.slice X1 P.first.length z1,.slice X2 P.ends.length z2,.bool P.empty] 149)=W9:=⟨_,rfl⟩
   have hx9:Below wr.heap.size wr W9:=by rw [<-hW9];exact(Below.refl _ _).alloc (Nat.le_refl _) _
   have hp9:BlkIs W9 wr.heap.size 149 #[.slice X1 P.first.length z1,.slice X2 P.ends.length z2,.bool P.empty]:=by rw [<-hW9];exact BlkIs.new _ _ _
   have HX:=zd (And.intro (hw.trans (hx9.mono hw.size)) (And.intro (hx1.step hx9) (hx2.step hx9)));have HP9:=zd (And.intro hp9 hx9);obtain⟨e0,e1,e2,g0,g1,g2⟩:=three hp9;clear d0 d1 d2 f0 f1 f2;obtain⟨d0,d1,d2,f0,f1,f2⟩:=three HX.out.2.2;have hsp:w.heap.size+2<=wr.heap.size:=hx2.lt;clear hp9 hx9 hw hx1 hx2 hg hcl hq0 hq1 hq2 HH
   go_wp2_with fail
   have hsz:w.heap.size+2<=W9.heap.size:=by have:=HX.out.2.2.lt;omega
   have hK2:=KB_lt (n:=2) HK.out hsz;have hup:Sub (hide w K) (hide W9 (KB K w.heap.size 2)):=KB_up (Nat.le_refl _) HX.out.1;have hst:Sub (hide wr (KB K w.heap.size 2)) (hide W9 (KB K w.heap.size 2)):=xzai _ HP9.out.2;have HM:=zd (xzco E.first P.first _ _ W9 _ hK2 (HR.out.1.1.sub hst) (HR.out.2.1.sub hup) (by have:=xzay hso.1;have:=xzay hpo.1;omega));refine HM.out.mono ?_;rintro e u1 ⟨v1,rfl,hv1,hu1⟩;obtain⟨U1,hU1⟩:∃ U1,u1.setCell ⟨w.heap.size+1,0,none⟩ v1=U1:=⟨_,rfl⟩
   have hput:Sub (hide u1 (KB K w.heap.size 2)) (hide U1 (KB K w.heap.size 2)):=by rw [<-hU1];exact xzcp (yzal (by show w.heap.size<=w.heap.size+1;omega) (by show w.heap.size+1<w.heap.size+2;omega)) v1
   have hbU:Below w.heap.size w U1:=by rw [<-hU1];exact(HX.out.1.trans (hu1.mono HX.out.1.size)).setCell (p:=⟨_,_,none⟩) (by show w.heap.size<=w.heap.size+1;omega) _
   have hxU:BlkIs U1 w.heap.size 149 #[.slice none 0 0,.slice none 0 0,.bool false]:=by rw [<-hU1];exact(HX.out.2.1.step hu1).far (by show w.heap.size≠w.heap.size+1;omega) _
   have hyU:BlkIs U1 (w.heap.size+1) 149 #[v1,.slice X4 E.ends.length z4,.bool E.empty]:=by rw [<-hU1];exact(HX.out.2.2.step hu1).put 0 v1
   have hpU:BlkIs U1 wr.heap.size 149 #[.slice X1 P.first.length z1,.slice X2 P.ends.length z2,.bool P.empty]:=by rw [<-hU1];exact(HP9.out.1.step hu1).far (by show wr.heap.size≠w.heap.size+1;omega) _
   have HU:=zd (And.intro hbU (And.intro hxU hyU));have HV1:=zd (hv1.sub hput);have h1U:Sub (hide W9 (KB K w.heap.size 2)) (hide U1 (KB K w.heap.size 2)):=(xzai _ hu1).trans hput;have HS2:=zd (And.intro ((HR.out.1.2.sub hst).sub h1U) ((HR.out.2.2.sub hup).sub h1U));clear d0 d1 d2 f0 f1 f2 e0 e1 e2 g0 g1 g2;obtain⟨k0,k1,k2,l0,l1,l2⟩:=three ((HX.out.2.2.step hu1));obtain⟨X5,z5,rfl,_⟩:=hv1;clear hput hbU hxU h1U hu1 hup hst;obtain⟨e0,e1,e2,g0,g1,g2⟩:=three hpU;obtain⟨d0,d1,d2,f0,f1,f2⟩:=three hyU;have HPU:=zd hpU;clear hpU hyU
   go_wp2_with fail
   have hszU:w.heap.size+2<=U1.heap.size:=by have:=HU.out.2.2.lt;omega
   have HM2:=zd (xzco E.ends P.ends _ _ U1 _ (KB_lt (n:=2) HK.out hszU) HS2.out.1 HS2.out.2 (by have:=xzay hso.2;have:=xzay hpo.2;omega));refine HM2.out.mono ?_;rintro e u2 ⟨v2,rfl,hv2,hu2⟩;obtain⟨U2,hU2⟩:∃ U2,u2.setCell ⟨w.heap.size+1,1,none⟩ v2=U2:=⟨_,rfl⟩
   have hput:Sub (hide u2 (KB K w.heap.size 2)) (hide U2 (KB K w.heap.size 2)):=by rw [<-hU2];exact xzcp (yzal (by show w.heap.size<=w.heap.size+1;omega) (by show w.heap.size+1<w.heap.size+2;omega)) v2
   have hbU:Below w.heap.size w U2:=by rw [<-hU2];exact(HU.out.1.trans (hu2.mono HU.out.1.size)).setCell (p:=⟨_,_,none⟩) (by show w.heap.size<=w.heap.size+1;omega) _
   have hxU:BlkIs U2 w.heap.size 149 #[.slice none 0 0,.slice none 0 0,.bool false]:=by rw [<-hU2];exact(HU.out.2.1.step hu2).far (by show w.heap.size≠w.heap.size+1;omega) _
   have hyU:BlkIs U2 (w.heap.size+1) 149 #[.slice X5 (mergedL E.first P.first).length z5,v2,.bool E.empty]:=by rw [<-hU2];exact(HU.out.2.2.step hu2).put 1 v2
   have hpU:BlkIs U2 wr.heap.size 149 #[.slice X1 P.first.length z1,.slice X2 P.ends.length z2,.bool P.empty]:=by rw [<-hU2];exact(HPU.out.step hu2).far (by show wr.heap.size≠w.heap.size+1;omega) _
   have HX2:=zd (And.intro hbU (And.intro hxU hyU));have HV2:=zd (And.intro ((HV1.out.sub (xzai _ hu2)).sub hput) (hv2.sub hput));clear d0 d1 d2 f0 f1 f2 e0 e1 e2 g0 g1 g2 k0 k1 k2 l0 l1 l2;obtain⟨k0,k1,k2,l0,l1,l2⟩:=three ((HU.out.2.2.step hu2));obtain⟨X6,z6,rfl,_⟩:=hv2;obtain⟨e0,e1,e2,g0,g1,g2⟩:=three hpU;obtain⟨d0,d1,d2,f0,f1,f2⟩:=three hyU;have HSN:=zd hsn;clear hput hbU hxU hu2 hpU hyU hsn
   have hend:∀ x:Bool,x=(E.empty||P.empty)->∃ a1 a2,Below w.heap.size w (U2.setCell ⟨w.heap.size+1,2,none⟩ (.bool x))/\BlkIs (U2.setCell ⟨w.heap.size+1,2,none⟩ (.bool x)) w.heap.size 149 #[.slice none 0 0,.slice none 0 0,.bool false]/\
    BlkIs (U2.setCell ⟨w.heap.size+1,2,none⟩ (.bool x)) (w.heap.size+1) 149 #[a1,a2,.bool (eitherP ⟨[],[],false⟩ (l.take (j+1))).empty]/\IntsV (hide (U2.setCell ⟨w.heap.size+1,2,none⟩ (.bool x)) (KB K w.heap.size 2)) (eitherP ⟨[],[],false⟩ (l.take (j+1))).first a1/\
    IntsV (hide (U2.setCell ⟨w.heap.size+1,2,none⟩ (.bool x)) (KB K w.heap.size 2)) (eitherP ⟨[],[],false⟩ (l.take (j+1))).ends a2:=fun x hx=>by
    rw [HSN.out];have hps:Sub (hide U2 (KB K w.heap.size 2)) (hide (U2.setCell ⟨w.heap.size+1,2,none⟩ (.bool x)) (KB K w.heap.size 2)):=xzcp (yzal (by show w.heap.size<=w.heap.size+1;omega) (by show w.heap.size+1<w.heap.size+2;omega)) _;refine⟨_,_,HX2.out.1.setCell (p:=⟨_,_,none⟩) (by show w.heap.size<=w.heap.size+1;omega) _,HX2.out.2.1.far (by show w.heap.size≠w.heap.size+1;omega) _,?_,HV2.out.1.sub hps,HV2.out.2.sub hps⟩;have:=HX2.out.2.2.put 2 (.bool x);rw [hx]at this ⊢;exact this
   have HE:=zd hend;clear hend
   cases hee:E.empty with
   |true=>
    rw [hee]at HE d2 k2;go_wp2;exact⟨⟨j+1,rfl,hp,zd (HE.out true (by simp))⟩,by simp [intOf];omega⟩
   |false=>
    rw [hee]at HE d2 k2;go_wp2;exact⟨⟨j+1,rfl,hp,zd (HE.out P.empty (by simp))⟩,by simp [intOf];omega⟩
  ·have hdl:decide ((j:Int)<(l.length:Int))=false:=by simp;omega
   obtain rfl:j=l.length:=by omega
   rw [List.take_length]at HH d2 hr1 hr2 hx2;have HR:=zd (And.intro hr1 hr2);obtain⟨X3,z3,rfl,_⟩:=hr1;obtain⟨X4,z4,rfl,_⟩:=hr2;obtain⟨k0,k1,k2,l0,l1,l2⟩:=three hx1;have HW:=zd (And.intro hw hx1);have hb:w.heap.size<wr.heap.size:=hx1.lt;clear HH hw hx1 hx2
   have HSU:=zd (show ∀ x y z,Sub (hide wr (KB K w.heap.size 2)) (hide (((wr.setCell ⟨w.heap.size,0,none⟩ x).setCell ⟨w.heap.size,1,none⟩ y).setCell ⟨w.heap.size,2,none⟩ z) K)/\Below w.heap.size w (((wr.setCell ⟨w.heap.size,0,none⟩ x).setCell ⟨w.heap.size,1,none⟩ y).setCell ⟨w.heap.size,2,none⟩ z)from fun x y z=>by
    have hy:KB K w.heap.size 2 w.heap.size=true:=yzal (Nat.le_refl _) (by omega)
    exact⟨(((xzcp (p:=⟨_,_,none⟩) hy x).trans (xzcp (p:=⟨_,_,none⟩) hy y)).trans (xzcp (p:=⟨_,_,none⟩) hy z)).trans KB_sub,((HW.out.1.setCell (p:=⟨_,_,none⟩) (Nat.le_refl _) x).setCell (p:=⟨_,_,none⟩) (Nat.le_refl _) y).setCell (p:=⟨_,_,none⟩) (Nat.le_refl _) z⟩)
   go_wp2;have hl:=xzez (xzeb (x:=.slice X3 (eitherP ⟨[],[],false⟩ l).first.length z3) (y:=.slice X4 (eitherP ⟨[],[],false⟩ l).ends.length z4) (z:=.bool (eitherP ⟨[],[],false⟩ l).empty) HW.out.2);refine⟨rfl,_,xzae rfl rfl hl,_,rfl,?_,(HSU.out _ _ _).2⟩;exact⟨_,_,rfl,HR.out.1.sub (HSU.out _ _ _).1,HR.out.2.sub (HSU.out _ _ _).1⟩
end
section
open Go.RowKit
attribute [local irreducible] FreeW textFrame
theorem IntsV.form {W:World}{l:List Int}{v:Value}(h:IntsV W l v):∃ A c,v=.slice A l.length c/\(l.length<=c/\c<=9223372036854775807):=by
 obtain⟨A,c,rfl,hc,_⟩:=h;exact⟨A,c,rfl,hc⟩
set_option maxRecDepth 20000 in
set_option maxHeartbeats 16000000 in
theorem xzvm (M K:Nat->Bool)(S:Mk)(E row:List Int)(ve vr:Value)(pb:Nat)(r f e m:Value)(w:World)(hm:MkAt M K w pb S r f e m)(he:IntsV (hide w (MK M K)) E ve)(hr:IntsV (hide w (MK M K)) row vr)
 (hS:S.Ok)(hE:risesB S.sets.length (-1) E=true)(hrow:risesB S.sets.length (-1) row=true)(hn:S.sets.length<=1048576)(hM:∀ k,M k=true->k<w.heap.size)(hK:∀ k,K k=true->k<w.heap.size):
 Calls Tryz.prog 117 #[.pointer (some ⟨pb,0,none⟩),ve,vr] w fun x w'=>∃ y,x=.returned y/\Nx M M w w'/\MkAt M K w' pb ⟨S.sets,linkF S.follow E row⟩ r f e m:=by
 obtain⟨Ae,ce,rfl,hce⟩:=he.form;obtain⟨Ar,cr,rfl,hcr⟩:=hr.form;have HE:=zd he;have HR:=zd hr;have H0:=zd hm;have HI:=zd (fun(j:Nat) (h:j<E.length)=>xzhu hE _ (List.getElem_mem h));have HO:=zd (fun j=>xzhw (n:=S.sets.length) (E.take j) hS.2 hrow);have HL:=zd (fun j=>(xzey (E.take j) S.follow row).trans hS.1);have HS:=zd (fun(j:Nat) (h:j<E.length)=>(show linkF S.follow (E.take (j+1)) row=(linkF S.follow (E.take j) row).set E[j].toNat (mergedL ((linkF S.follow (E.take j) row).getD E[j].toNat []) row)by rw [List.take_succ_eq_append_getElem h];exact xzmh row E[j] (E.take j) S.follow));have HRO:=zd (xzay hrow);have HMK:=zd (fun k (h:MK M K k=true)=>(show k<w.heap.size by unfold MK at h;simp only [Bool.or_eq_true]at h;rcases h with h|h;exact hM k h;exact hK k h));clear he hr hm hE hrow hS hM hK
 go_enter Tryz.func117,Tryz.ntmps117
 go_wp2
 go_loopw [10] (fun i wr=>∃ j:Nat,i=.int .i64 j/\j<=E.length/\Hid (MkAt M K wr pb ⟨S.sets,linkF S.follow (E.take j) row⟩ r f e m/\Nx M M w wr)) (fun i _=>E.length - (intOf i).toNat)
 case atStart=>exact⟨0,rfl,Nat.zero_le _,zd ⟨H0.out,Nx.refl _ _⟩⟩
 case round=>
  obtain⟨j,rfl,hj,HH⟩:=hrel
  by_cases hp:j<E.length
  ·have hk1:IntKind.i64.wrap ((j:Int)+1)=((j+1:Nat):Int):=by rw [IntKind.wrap_i64];omega
   have hdl:decide ((j:Int)<(E.length:Int))=true:=by simp;omega
   have hx:=HI.out j hp;have hs:=HS.out j hp;have ho:=HO.out j;have hl:=HL.out j;have hhm:=HH.out.1
   have hne:E≠[]:=by intro e;rw [e]at hp;simp at hp
   obtain⟨be,oe,ce',h1,hre⟩:=HE.out.run hne
   injection h1 with h1 _ h2
   subst h1 h2;have hcell:=(xzba _ _ ((hre.sub (HH.out.2.sub K)).2 j hp));have HNX:=zd HH.out.2;clear hre HH;generalize linkF S.follow (E.take j) row=F at*;generalize E[j]=x at*;obtain⟨xn,rfl⟩:=Int.eq_ofNat_of_zero_le (show 0<=x by omega)
   have hxn:xn<F.length:=by omega
   have hxi:(xn:Int)<(F.length:Int):=by omega
   rw [Int.toNat_natCast]at hs
   have hgd:F.getD xn []=F[xn]:=by simp [hxn]
   rw [hgd]at hs;obtain⟨vs,vf,xs,hmi⟩:=hhm;obtain⟨g,c,rfl,hc,hg1,hg2,hg3,hg4⟩:=hmi.place (by intro e;have e:F=[]:=e;rw [e]at hxn;simp at hxn);obtain⟨A1,n1,c1,hy0,hy1,hy2⟩:=hg4 xn hxn;obtain⟨A1',c1',h1,hcc1⟩:=hy2.form
   injection h1 with h1 h2 h3
   subst h1 h2 h3;simp only at hc hy2 hy0 hcc1;have HMI:=zd hmi;have HC:=zd (fun u (hu:Below wr.heap.size wr u)=>And.intro (six (hmi.blk.step hu)) (show u.cell? ⟨g,xn,none⟩=some (.slice A1 F[xn].length c1)from(hu.cell (p:=⟨g,xn,none⟩) hg3).trans hy0))
   have hfr:∀ u,Below wr.heap.size wr u->u.frozen? ⟨g,xn,none⟩=false:=fun u hu=>(hu.frozen (p:=⟨g,xn,none⟩) hg3).trans hy1
   have HFR:=zd hfr;have hlen1:F[xn].length<=S.sets.length:=xzay (ho _ (List.getElem_mem hxn));have HM:=zd (fun u (hu:Below wr.heap.size wr u)=>xzco F[xn] row _ _ u (MK M K) (fun k hk=>Nat.lt_of_lt_of_le (HMK.out k hk) (Nat.le_trans HNX.out.size hu.size)) (hy2.sub (xzai _ hu)) ((HR.out.sub (HNX.out.sub K)).sub (xzai _ hu)) (by have:=HRO.out;omega));have HSS:=zd hs;have HG:=zd (And.intro hg1 hg3);clear hmi hy0 hy1 hy2 hg4 hfr ho hs hgd hx hl hlen1 hg1 hg2 hg3
   go_wp2_with fail
   refine xzaf 17 32 (fun u=>Hid (Below wr.heap.size wr u)) (fun _ u u'=>Below u.heap.size u u')
    (fun i v u=>match i with
     |0=>v=.pointer (some ⟨pb,0,none⟩)
     |1=>v=.pointer (some ⟨pb,0,none⟩)
     |2=>v=.pointer (some ⟨pb,0,none⟩)
     |3=>v=.pointer (some ⟨pb,3,none⟩)
     |4=>v=.slice (some ⟨g,0,none⟩) F.length c
     |5=>v=.int .i64 (xn:Int)
     |6=>v=.pointer (some ⟨pb,0,none⟩)
     |7=>v=.pointer (some ⟨pb,0,none⟩)
     |8=>v=.pointer (some ⟨pb,0,none⟩)
     |9=>v=.pointer (some ⟨pb,3,none⟩)
     |10=>v=.slice (some ⟨g,0,none⟩) F.length c
     |11=>v=.int .i64 (xn:Int)
     |12=>v=.pointer (some ⟨g,xn,none⟩)
     |13=>v=.slice A1 F[xn].length c1
     |14=>v=.slice Ar row.length cr
     |15=>IntsV (hide u (MK M K)) (mergedL F[xn] row) v
     |16=>v=.pointer (some ⟨g,xn,none⟩)
     |_=>True) (by kernel_rfl) (by kernel_rfl) rfl (zd (Below.refl _ _).drew) ?_ ?_ ?_ ?_
   ·intro i u u' hi hC hr
    exact zd (hC.out.trans (hr.mono hC.out.size))
   ·intro i j v u u' hi hj hne hv hr
    match i,hi,hne,hv with
    |0,_,_,hv=>exact hv
    |1,_,_,hv=>exact hv
    |2,_,_,hv=>exact hv
    |3,_,_,hv=>exact hv
    |4,_,_,hv=>exact hv
    |5,_,_,hv=>exact hv
    |6,_,_,hv=>exact hv
    |7,_,_,hv=>exact hv
    |8,_,_,hv=>exact hv
    |9,_,_,hv=>exact hv
    |10,_,_,hv=>exact hv
    |11,_,_,hv=>exact hv
    |12,_,_,hv=>exact hv
    |13,_,_,hv=>exact hv
    |14,_,_,hv=>exact hv
    |15,_,hne,hv=>
     exact hv.sub (xzai _ hr)
    |16,_,_,hv=>exact hv
    |i+17,hi,_,_=>omega
   ·intro i hi vs u hC hw o ho
    match i,hi,hw,ho with
    |0,_,hw,ho=>
     simp only [zq,zh]at ho;subst ho;refine⟨rfl,?_⟩;obtain⟨⟨k0,k1,k2,k3,k4,k5⟩,y0⟩:=HC.out u hC.out;clear hw;simp only [xzaa,tmpsTo];go_simp;exact xzab (Below.refl _ _) rfl
    |1,_,hw,ho=>
     have e0:vs 0=.pointer (some ⟨pb,0,none⟩):=hw 0 (by omega) (by kernel_rfl);simp only [zq,zh]at ho;subst ho;refine⟨rfl,?_⟩;obtain⟨⟨k0,k1,k2,k3,k4,k5⟩,y0⟩:=HC.out u hC.out;clear hw;simp only [xzaa,tmpsTo,putT,zr];rw [e0];clear e0;go_simp;exact xzab (Below.refl _ _) rfl
    |2,_,hw,ho=>
     have e1:vs 1=.pointer (some ⟨pb,0,none⟩):=hw 1 (by omega) (by kernel_rfl);simp only [zq,zh]at ho;subst ho;refine⟨rfl,?_⟩;obtain⟨⟨k0,k1,k2,k3,k4,k5⟩,y0⟩:=HC.out u hC.out;clear hw;simp only [xzaa,tmpsTo,putT,zr];rw [e1];clear e1;go_simp;exact xzab (Below.refl _ _) rfl
    |3,_,hw,ho=>
     have e2:vs 2=.pointer (some ⟨pb,0,none⟩):=hw 2 (by omega) (by kernel_rfl);simp only [zq,zh]at ho;subst ho;refine⟨rfl,?_⟩;obtain⟨⟨k0,k1,k2,k3,k4,k5⟩,y0⟩:=HC.out u hC.out;clear hw;simp only [xzaa,tmpsTo,putT,zr];rw [e2];clear e2;go_simp;exact xzab (Below.refl _ _) rfl
    |4,_,hw,ho=>
     have e3:vs 3=.pointer (some ⟨pb,3,none⟩):=hw 3 (by omega) (by kernel_rfl);simp only [zq,zh]at ho;subst ho;refine⟨rfl,?_⟩;obtain⟨⟨k0,k1,k2,k3,k4,k5⟩,y0⟩:=HC.out u hC.out;clear hw;simp only [xzaa,tmpsTo,putT,zr];rw [e3];clear e3;go_simp;exact xzab (Below.refl _ _) rfl
    |5,_,hw,ho=>
     simp only [zq,zh]at ho;subst ho;refine⟨rfl,?_⟩;obtain⟨⟨k0,k1,k2,k3,k4,k5⟩,y0⟩:=HC.out u hC.out;clear hw;simp only [xzaa,tmpsTo,putT,zr];go_simp;exact xzab (Below.refl _ _) rfl
    |6,_,hw,ho=>
     simp only [zq,zh]at ho;subst ho;refine⟨rfl,?_⟩;obtain⟨⟨k0,k1,k2,k3,k4,k5⟩,y0⟩:=HC.out u hC.out;clear hw;simp only [xzaa,tmpsTo,putT,zr];go_simp;exact xzab (Below.refl _ _) rfl
    |7,_,hw,ho=>
     have e6:vs 6=.pointer (some ⟨pb,0,none⟩):=hw 6 (by omega) (by kernel_rfl);simp only [zq,zh]at ho;subst ho;refine⟨rfl,?_⟩;obtain⟨⟨k0,k1,k2,k3,k4,k5⟩,y0⟩:=HC.out u hC.out;clear hw;simp only [xzaa,tmpsTo,putT,zr];rw [e6];clear e6;go_simp;exact xzab (Below.refl _ _) rfl
    |8,_,hw,ho=>
     have e7:vs 7=.pointer (some ⟨pb,0,none⟩):=hw 7 (by omega) (by kernel_rfl);simp only [zq,zh]at ho;subst ho;refine⟨rfl,?_⟩;obtain⟨⟨k0,k1,k2,k3,k4,k5⟩,y0⟩:=HC.out u hC.out;clear hw;simp only [xzaa,tmpsTo,putT,zr];rw [e7];clear e7;go_simp;exact xzab (Below.refl _ _) rfl
    |9,_,hw,ho=>
     have e8:vs 8=.pointer (some ⟨pb,0,none⟩):=hw 8 (by omega) (by kernel_rfl);simp only [zq,zh]at ho;subst ho;refine⟨rfl,?_⟩;obtain⟨⟨k0,k1,k2,k3,k4,k5⟩,y0⟩:=HC.out u hC.out;clear hw;simp only [xzaa,tmpsTo,putT,zr];rw [e8];clear e8;go_simp;exact xzab (Below.refl _ _) rfl
    |10,_,hw,ho=>
     have e9:vs 9=.pointer (some ⟨pb,3,none⟩):=hw 9 (by omega) (by kernel_rfl);simp only [zq,zh]at ho;subst ho;refine⟨rfl,?_⟩;obtain⟨⟨k0,k1,k2,k3,k4,k5⟩,y0⟩:=HC.out u hC.out;clear hw;simp only [xzaa,tmpsTo,putT,zr];rw [e9];clear e9;go_simp;exact xzab (Below.refl _ _) rfl
    |11,_,hw,ho=>
     simp only [zq,zh]at ho;subst ho;refine⟨rfl,?_⟩;obtain⟨⟨k0,k1,k2,k3,k4,k5⟩,y0⟩:=HC.out u hC.out;clear hw;simp only [xzaa,tmpsTo,putT,zr];go_simp;exact xzab (Below.refl _ _) rfl
    |12,_,hw,ho=>
     have e10:vs 10=.slice (some ⟨g,0,none⟩) F.length c:=hw 10 (by omega) (by kernel_rfl);have e11:vs 11=.int .i64 (xn:Int):=hw 11 (by omega) (by kernel_rfl);simp only [zq,zh]at ho;subst ho;refine⟨rfl,?_⟩;obtain⟨⟨k0,k1,k2,k3,k4,k5⟩,y0⟩:=HC.out u hC.out;clear hw;simp only [xzaa,tmpsTo,putT,zr];rw [e10,e11];clear e10 e11;go_simp;exact xzab (Below.refl _ _) rfl
    |13,_,hw,ho=>
     have e12:vs 12=.pointer (some ⟨g,xn,none⟩):=hw 12 (by omega) (by kernel_rfl);simp only [zq,zh]at ho;subst ho;refine⟨rfl,?_⟩;obtain⟨⟨k0,k1,k2,k3,k4,k5⟩,y0⟩:=HC.out u hC.out;clear hw;simp only [xzaa,tmpsTo,putT,zr];rw [e12];clear e12;go_simp;exact xzab (Below.refl _ _) rfl
    |14,_,hw,ho=>
     simp only [zq,zh]at ho;subst ho;refine⟨rfl,?_⟩;obtain⟨⟨k0,k1,k2,k3,k4,k5⟩,y0⟩:=HC.out u hC.out;clear hw;simp only [xzaa,tmpsTo,putT,zr];go_simp;exact xzab (Below.refl _ _) rfl
    |15,_,hw,ho=>
     have e13:vs 13=.slice A1 F[xn].length c1:=hw 13 (by omega) (by kernel_rfl);have e14:vs 14=.slice Ar row.length cr:=hw 14 (by omega) (by kernel_rfl);simp only [zq,zh]at ho;subst ho;refine⟨rfl,?_⟩;obtain⟨⟨k0,k1,k2,k3,k4,k5⟩,y0⟩:=HC.out u hC.out;clear hw;simp only [xzaa,tmpsTo,putT,zr];rw [e13,e14];clear e13 e14;go_simp;refine xzak ((HM.out u hC.out).mono ?_);rintro e u' ⟨v',rfl,h1,h2⟩;exact⟨v',rfl,h2,h1⟩
    |16,_,hw,ho=>
     have e4:vs 4=.slice (some ⟨g,0,none⟩) F.length c:=hw 4 (by omega) (by kernel_rfl);have e5:vs 5=.int .i64 (xn:Int):=hw 5 (by omega) (by kernel_rfl);simp only [zq,zh]at ho;subst ho;refine⟨rfl,?_⟩;obtain⟨⟨k0,k1,k2,k3,k4,k5⟩,y0⟩:=HC.out u hC.out;clear hw;simp only [xzaa,tmpsTo,putT,zr];rw [e4,e5];clear e4 e5;go_simp;exact xzab (Below.refl _ _) rfl
    |i+17,hi,_,_=>omega
   intro vs1 u hC hV;obtain⟨v15,h15⟩:∃ v,vs1 15=v:=⟨_,rfl⟩;have hv:IntsV (hide u (MK M K)) (mergedL F[xn] row) (vs1 15):=hV 15 (by omega);have hv16:vs1 16=.pointer (some ⟨g,xn,none⟩):=hV 16 (by omega);rw [h15]at hv;have HV:=zd hv;obtain⟨A9,c9,rfl,_⟩:=hv.form;have HCO:=zd hC.out;have hfz:=HFR.out u hC.out;have hcl:=(HC.out u hC.out).2;clear hV hv hC;simp only [xzaa,tmpsTo,putT,zr,List.drop_succ_cons,List.drop_zero];rw [h15,hv16];clear h15 hv16;generalize vs1 0=q0;go_wp2;refine⟨⟨j+1,rfl,hp,zd ⟨?_,?_⟩⟩,by simp [intOf];omega⟩
   ·rw [HSS.out]
    exact⟨_,_,_,(HMI.out.step HCO.out).put xn HV.out⟩
   ·exact HNX.out.trans ((Nx.below HCO.out).trans (Nx.put (M:=M) (p:=⟨g,xn,none⟩) HG.out.1 _))
  ·have hdl:decide ((j:Int)<(E.length:Int))=false:=by simp;omega
   obtain rfl:j=E.length:=by omega
   rw [List.take_length]at HH;go_wp2
   go_end0
   exact⟨_,rfl,HH.out.2,HH.out.1⟩
end
end Go.Proofs.YtdjpphjpnkfeiaaGreatDoor
