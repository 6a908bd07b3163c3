/-
 ROWS THAT GROW, each in a block of its own; WHAT dfa's back ANSWERS: a contract. Condition: an automaton that may be.
-/
import Derived.Laws.Bits64b
import Derived.Test.YtdjpphjpnkfeiaaGreatDoorQG28
import Derived.Test.YtdjpphjpnkfeiaaGreatDoorQG18
import Derived.Test.YtdjpphjpnkfeiaaGreatDoorQG09
namespace Go.Proofs.YtdjpphjpnkfeiaaGreatDoor
section
open Go.RowKit
attribute [local irreducible] FreeW
structure GrowR (B g n:Nat)(L:Nat->List Int)(F:Nat->Value)(W:World):Prop where
 lt:g<B
 le:B<=W.heap.size
 blk:BlkF W g 26 n F
 row:∀ i,i<n->RowI B W (F i) (L i)
 apart:∀ i j,i<n->j<n->i≠j->∀ k,(F i).ownBlock=some k->(F j).ownBlock≠some k
theorem GrowR.push {B g n:Nat}{L:Nat->List Int}{F:Nat->Value}{W:World}(h:GrowR B g n L F W){i:Nat}(hi:i<n)(x:Int)(hl:(L i).length+1<=1073741824):
 ∃ v' W',(Builtin.append_ #[26,26] 26 #[F i,.slice (some ⟨W.heap.size,0,none⟩) 1 1]).run Tryz.prog (W.alloc (.cells #[.int .i64 x] 3))=.ok v' W'/\
  (∃ A m c,v'=.slice A m c)/\(∃ y,W'.cell? ⟨g,i,none⟩=some y)/\W'.frozen? ⟨g,i,none⟩=false/\GrowR B g n (fun j=>if j=i then L i++[x]else L j) (putV F i v') (W'.setCell ⟨g,i,none⟩ v')/\(∀ B0 W0,B0<=g->Below B0 W0 W->Below B0 W0 (W'.setCell ⟨g,i,none⟩ v')):=by
 obtain⟨U,hU⟩:∃ U,W.alloc (.cells #[.int .i64 x] 3)=U:=⟨_,rfl⟩
 have hsz:U.heap.size=W.heap.size+1:=by rw [<-hU];simp
 have hUB:Below W.heap.size W U:=by rw [<-hU];exact(Below.refl _ _).alloc (Nat.le_refl _) _
 have hnew:U.cell? ⟨W.heap.size,0,none⟩=some (.int .i64 x):=by
  rw [<-hU];exact(BlkIs.new W 3 #[.int .i64 x]).cell 0
 have h1:=(h.row i hi).step hUB;have hle:=h.le;obtain⟨v',W',hr,hown,hgr,_,hob⟩:=xzfp h1 hnew hl (by omega) (c:=1);rw [hU]
 have hng:∀ j,j<n->(F j).ownBlock≠some g:=fun j hj e=>by have:=(World.ownsRow.lt (h.row j hj) g e).1;have:=h.lt;omega
 have hgW:W'.heap[g]? =W.heap[g]? :=(hgr.block g (by have:=h.lt;omega) (fun e=>hng i hi e.symm)).trans (hUB.block g (by have:=h.lt;omega));have hb':BlkF W' g 26 n F:=hgW.trans h.blk
 have hown':∀ k,v'.ownBlock=some k->k≠g:=fun k hk e=>by
  subst e;have:=(World.ownsRow.lt hown k hk).1;have:=h.lt;omega
 refine⟨v',W',hr,by obtain⟨A,c,e,_⟩:=xzbj hown;exact⟨_,_,_,e⟩,⟨_,BlkF.cell hb' hi⟩,BlkIs.frozen hb' i,⟨h.lt,by rw [World.size_setCell];have:=hgr.size;omega,hb'.put i v',fun j hj=>?_,fun j k hj hk hne m=>?_⟩,fun B0 W0 h0 hb=>?_⟩
 ·by_cases e:j=i
  ·subst e
   unfold putV;rw [if_pos rfl]
   show RowI B _ v' (if j=j then L j++[x]else L j)
   rw [if_pos rfl]
   exact xzbd hown fun k hk=>Below.heap_setCell _ _ _ _ (hown' k hk)
  ·unfold putV
   rw [if_neg e]
   show RowI B _ (F j) (if j=i then L i++[x]else L j)
   rw [if_neg e];have h2:=(h.row j hj).step hUB
   have h3:RowI B W' (F j) (L j):=World.ownsRow.kept h2 hgr (by
    cases hf:(F j).ownBlock with
    |none=>exact .inl rfl
    |some k=>exact .inr fun e2=>h.apart j i hj hi e k hf e2.symm)
   exact xzbd h3 fun k hk=>Below.heap_setCell _ _ _ _ (fun e2=>hng j hj (hk.trans (congrArg some e2)))
 ·have key:∀ j,j<n->j≠i->∀ m,(F j).ownBlock=some m->v'.ownBlock≠some m:=fun j hj hne m hm e=>by
   rcases hob with e1|e1
   ·exact h.apart j i hj hi hne m hm (e1▸e)
   ·rw [e1]at e
    have:=(World.ownsRow.lt (h.row j hj) m hm).2
    injection e with e
    omega
  unfold putV
  by_cases e1:j=i
  ·rw [if_pos e1,if_neg (fun e2=>hne (e1.trans e2.symm))]
   intro h1 h2;exact key k hk (fun e2=>hne (e1.trans e2.symm)) m h2 h1
  ·rw [if_neg e1]
   by_cases e2:k=i
   ·rw [if_pos e2]
    exact fun h1=>key j hj e1 m h1
   ·rw [if_neg e2]
    exact fun h1=>h.apart j k hj hk hne m h1
 ·exact((hb.trans (hUB.mono (by have:=h.lt;omega))).grown hgr (by have:=hUB.size;have:=h.lt;omega) (fun k hk=>by have:=(World.ownsRow.lt h1 k hk).1;have:=h.lt;omega)).setCell (p:=⟨g,i,none⟩) h0 _
theorem GrowR.rows {B g n:Nat}{L:Nat->List Int}{F:Nat->Value}{W:World}(h:GrowR B g n L F W)(hn:n<=1048576):RowsI W ((List.range n).map L) (.slice (some ⟨g,0,none⟩) n n):=by
 have hl:((List.range n).map L).length=n:=by simp
 refine⟨_,n,by rw [hl],by omega,fun _=>⟨g,0,rfl,by have:=h.lt;have:=h.le;omega,fun i hi=>?_⟩⟩;rw [hl]at hi;refine⟨F i,by rw [Nat.zero_add];exact BlkF.cell h.blk hi,?_⟩;rw [List.getElem_map,List.getElem_range];exact(h.row i hi).ints
theorem GrowR.begin {W:World}{g n:Nat}(hg:g<W.heap.size)(h:BlkF W g 26 n fun _=>.slice none 0 0):GrowR W.heap.size g n (fun _=>[]) (fun _=>.slice none 0 0) W:=
 ⟨hg,Nat.le_refl _,h,fun _ _=>RowI.nil _ _,fun _ _ _ _ _ k e=>by cases e⟩
def EdgeTo (D:Df)(a c:Nat)(i:Nat)(x:Int):Prop:=∃ p:Nat,x=(p:Int)/\((p<a/\(i:Int)∈D.next.getD p [])\/(p=a/\(i:Int)∈(D.next.getD a []).take c))
theorem yzff (D:Df)(a:Nat)(i:Nat)(x:Int):EdgeTo D a (D.next.getD a []).length i x↔EdgeTo D (a+1) 0 i x:=by
 unfold EdgeTo
 constructor
 ·rintro⟨p,rfl,h|⟨rfl,h⟩⟩
  ·exact⟨p,rfl,.inl ⟨by omega,h.2⟩⟩
  ·exact⟨p,rfl,.inl ⟨by omega,by rwa [List.take_length]at h⟩⟩
 ·rintro⟨p,rfl,h|⟨rfl,h⟩⟩
  ·by_cases e:p=a
   ·subst e;exact⟨p,rfl,.inr ⟨rfl,by rw [List.take_length];exact h.2⟩⟩
   ·exact⟨p,rfl,.inl ⟨by omega,h.2⟩⟩
  ·simp at h
theorem yzbc (D:Df)(a c:Nat)(hc:c<(D.next.getD a []).length)(i:Nat)(x:Int):EdgeTo D a (c+1) i x↔EdgeTo D a c i x\/((D.next.getD a [])[c]=(i:Int)/\x=(a:Int)):=by
 unfold EdgeTo;rw [List.take_succ_eq_append_getElem hc]
 constructor
 ·rintro⟨p,rfl,h|⟨rfl,h⟩⟩
  ·exact .inl ⟨p,rfl,.inl h⟩
  ·rcases List.mem_append.1 h with h|h
   ·exact .inl ⟨p,rfl,.inr ⟨rfl,h⟩⟩
   ·rw [List.mem_singleton]at h;exact .inr ⟨h.symm,rfl⟩
 ·rintro(⟨p,rfl,h|⟨rfl,h⟩⟩|⟨h,rfl⟩)
  ·exact⟨p,rfl,.inl h⟩
  ·exact⟨p,rfl,.inr ⟨rfl,List.mem_append.2 (.inl h)⟩⟩
  ·exact⟨a,rfl,.inr ⟨rfl,List.mem_append.2 (.inr (by rw [h];simp))⟩⟩
theorem xzwq:(Tryz.prog.info? 26).map (fun i=>(i.zero,i.size,i.bytes))=some (some (.slice none 0 0),1,24):=by kernel_rfl
theorem xzwr (n:Nat)(h:n<=1099511627776)(w:World):(Instr.makeSlice 25 (.int .i64 (n:Nat)) (.int .i64 (n:Nat))).run Tryz.prog w=.ok (.slice (some ⟨w.heap.size,0,none⟩) n n) (w.alloc (.cells (cellsN n fun _=>.slice none 0 0) 26)):=by
 have e:madeCells #[Value.slice none 0 0] n=cellsN n fun _=>.slice none 0 0:=by
  unfold madeCells cellsN
  apply Array.ext'
  simp [Nat.mod_one]
 rw [<-e];exact run_make_row' (P:=Tryz.prog) 25 26 (.slice none 0 0) 24 Tryz.underlying25 xzwq rfl .i64 .i64 n (by omega) (by omega) w
set_option maxRecDepth 20000 in
set_option maxHeartbeats 8000000 in
theorem yzfg (D:Df)(v:Value)(w:World)(h:DfAt w D v)(hn:D.next.length<=600)(hrl:∀ r∈D.next,r.length<=256/\∀ x∈r, -1<=x/\x<(D.next.length:Int)):
 Calls Tryz.prog 90 #[v] w fun e w'=>∃ (L:Nat->List Int) (v':Value),e=.returned v'/\RowsI w' ((List.range D.next.length).map L) v'/\(∀ i,i<D.next.length->∀ x,x∈L i↔EdgeTo D D.next.length 0 i x)/\Below w.heap.size w w':=by
 obtain⟨vn,vt,rfl,hrn,hrt⟩:=h;obtain⟨W1,hbx,hsz,hb1,hx1⟩:=xzat D.of D.n vn vt w;have hd1:=DfB.of hx1;obtain⟨c256,c257,c258⟩:=hd1.cells;obtain⟨An,cn,rfl,hcn,hgn⟩:=hrn;obtain⟨W2,hW2⟩:∃ W2,W1.alloc (.cells (cellsN D.next.length fun _=>.slice none 0 0) 26)=W2:=⟨_,rfl⟩
 have hs2:W2.heap.size=w.heap.size+2:=by rw [<-hW2];simp [hsz]
 have hmk:=xzwr D.next.length (by omega) W1;rw [hW2,hsz]at hmk
 have hb2:Below w.heap.size w W2:=by rw [<-hW2];exact hb1.alloc (by omega) _
 have c257':W2.cell? ⟨w.heap.size,257,none⟩=some (.slice An D.next.length cn):=by
  rw [<-hW2];exact((Below.refl W1.heap.size W1).alloc (Nat.le_refl _) _ |>.cell (p:=⟨w.heap.size,257,none⟩) (by show w.heap.size<_;omega)).trans c257
 have hg2:GrowR W2.heap.size (w.heap.size+1) D.next.length (fun _=>[]) (fun _=>.slice none 0 0) W2:=GrowR.begin (by omega) (by rw [<-hW2,<-hsz];exact BlkIs.new W1 _ _);have HB:=zd (And.intro hb2 hg2);have HGN:=zd hgn;have HRL:=zd hrl;obtain⟨dc,hdc⟩:∃ dc,dfC D.of D.n (.slice An D.next.length cn) vt=dc:=⟨_,rfl⟩;rw [hdc]at hbx
 have hds:dc.size=259:=by rw [<-hdc];exact xzac _ _ _ _
 rw [hdc];clear hrt hb1 hx1 hd1 hdc hb2 hg2 hgn hrl hW2
 go_enter Tryz.func90,Tryz.ntmps90
 go_wp2;have HC:=zd c257';have HSZ:=zd hs2;clear hbx hds c256 c257 c258 c257' hmk
 go_loopw [4,5,7,15,22] (fun _ _ _ i _ wr=>∃ a:Nat,i=.int .i64 a/\a<=D.next.length/\Hid (Below w.heap.size w wr/\∃ L F,GrowR W2.heap.size (w.heap.size+1) D.next.length L F wr/\(∀ i,i<D.next.length->(L i).length<=a*256)/\∀ i,i<D.next.length->∀ x,x∈L i↔EdgeTo D a 0 i x)) (fun _ _ _ i _ _=>D.next.length - (intOf i).toNat)
 case atStart=>exact⟨0,rfl,Nat.zero_le _,zd ⟨HB.out.1,_,_,HB.out.2,fun _ _=>by simp,fun i _ x=>by unfold EdgeTo;simp⟩⟩
 case round=>
  obtain⟨a,rfl,ha,HH⟩:=hrel;obtain⟨wo,rfl⟩:∃ wo,wo=wr:=⟨_,rfl⟩
  by_cases hp:a<D.next.length
  ·have hk1:IntKind.i64.wrap ((a:Int)+1)=((a+1:Nat):Int):=by rw [IntKind.wrap_i64];omega
   have hdl:decide ((a:Int)<(D.next.length:Int))=true:=by simp;omega
   obtain⟨b,o,rfl,hlt,hg⟩:=HGN.out (by intro e;rw [e]at hp;simp at hp);obtain⟨vr,hcell,hvr⟩:=hg a hp;have hcell':=(HH.out.1.cell (p:=⟨b,o+a,none⟩) hlt).trans hcell;obtain⟨Ar,cr,rfl,hcr,hgr⟩:=hvr;have hrow:=HRL.out _ (List.getElem_mem hp)
   have hgd:D.next.getD a []=D.next[a]:=by rw [List.getD_eq_getElem?_getD,List.getElem?_eq_getElem hp];rfl
   have HER:=zd (yzff D a);have HES:=zd (yzbc D a);rw [hgd]at HER HES;generalize D.next[a]=r at*;have HGR:=zd hgr;have HROW:=zd hrow;clear hg hcell hgr hrow hgd;go_wp2
   go_loopw [7,22] (fun _ i wr=>∃ c:Nat,i=.int .i64 c/\c<=r.length/\Hid (Below w.heap.size w wr/\∃ L F,GrowR W2.heap.size (w.heap.size+1) D.next.length L F wr/\(∀ i,i<D.next.length->(L i).length<=a*256+c)/\∀ i,i<D.next.length->∀ x,x∈L i↔EdgeTo D a c i x)) (fun _ i _=>r.length - (intOf i).toNat)
   case atStart=>exact⟨0,rfl,Nat.zero_le _,HH⟩
   case round=>
    obtain⟨c,rfl,hc,HI⟩:=hrel;obtain⟨wi,rfl⟩:∃ wi,wi=wr:=⟨_,rfl⟩;clear hcell'
    by_cases hq:c<r.length
    ·have hk2:IntKind.i64.wrap ((c:Int)+1)=((c+1:Nat):Int):=by rw [IntKind.wrap_i64];have:=HROW.out.1;omega
     have hdl2:decide ((c:Int)<(r.length:Int))=true:=by simp;omega
     obtain⟨br,or,rfl,hltr,hgr⟩:=HGR.out (by intro e;rw [e]at hq;simp at hq);have hcr:=(HI.out.1.cell (p:=⟨br,or+c,none⟩) hltr).trans (hgr c hq);have hin:=HROW.out.2 _ (List.getElem_mem hq);have HES2:=zd (HES.out c hq);generalize r[c]=y at*;clear hgr
     by_cases hy:y= -1
     ·subst hy
      have HN:=zd (show Below w.heap.size w wi/\∃ L F,GrowR W2.heap.size (w.heap.size+1) D.next.length L F wi/\(∀ i,i<D.next.length->(L i).length<=a*256+(c+1))/\∀ i,i<D.next.length->∀ x,x∈L i↔EdgeTo D a (c+1) i x by
       obtain⟨h1,L,F,h2,h3,h4⟩:=HI.out;refine⟨h1,L,F,h2,fun i hi=>by have:=h3 i hi;omega,fun i hi x=>?_⟩;rw [h4 i hi x,HES2.out]
       constructor
       ·exact .inl
       ·rintro(h|⟨h,_⟩)
        ·exact h
        ·omega)
      clear HI hin;go_wp2;exact⟨⟨c+1,rfl,hq,HN⟩,by simp [intOf];omega⟩
     ·obtain⟨t,rfl⟩:∃ t:Nat,y=(t:Nat):=⟨y.toNat,by omega⟩
      have ht:t<D.next.length:=by omega
      have e1:=ne_m1 t
      have i1:decide ((t:Int)<(D.next.length:Int))=true:=by simp;omega
      obtain⟨h1,L,F,h2,h3,h4⟩:=HI.out;have hcF:=BlkF.cell h2.blk ht;obtain⟨v',W',hrun,⟨A5,n5,c5,rfl⟩,⟨yc,hyc⟩,hyf,hgrow,hbel⟩:=h2.push ht (a:Nat) (by have:=h3 t ht;have:=HROW.out.1;omega)
      have HN:=zd (show Below w.heap.size w (W'.setCell ⟨w.heap.size+1,t,none⟩ (.slice A5 n5 c5))/\∃ L F,GrowR W2.heap.size (w.heap.size+1) D.next.length L F (W'.setCell ⟨w.heap.size+1,t,none⟩ (.slice A5 n5 c5))/\(∀ i,i<D.next.length->(L i).length<=a*256+(c+1))/\∀ i,i<D.next.length->∀ x,x∈L i↔EdgeTo D a (c+1) i x by
       refine⟨hbel _ _ (by omega) h1,_,_,hgrow,fun i hi=>?_,fun i hi x=>?_⟩
       ·have g3:=h3 i hi
        have g4:=h3 t ht
        split
        ·rw [List.length_append,List.length_singleton];omega
        ·omega
       ·rw [HES2.out]
        by_cases e:i=t
        ·subst e
         rw [if_pos rfl,List.mem_append,List.mem_singleton,h4 i hi x]
         constructor
         ·rintro(h|h)
          ·exact .inl h
          ·exact .inr ⟨rfl,h⟩
         ·rintro(h|⟨_,h⟩)
          ·exact .inl h
          ·exact .inr h
        ·rw [if_neg e,h4 i hi x]
         constructor
         ·exact .inl
         ·rintro(h|⟨h,_⟩)
          ·exact h
          ·exact absurd (by omega) e)
      have hF:(F t).oneCell'=true\/True:=.inr trivial;clear HI h1 h2 h3 h4 hgrow hbel hy hin hF;generalize F t=ft at*
      go_wp2_with(refine xzan rfl _ _ 26 26 rfl rfl rfl hrun ?_)
      exact⟨⟨c+1,rfl,hq,HN⟩,by simp [intOf];omega⟩
    ·have hdl2:decide ((c:Int)<(r.length:Int))=false:=by simp;omega
     obtain rfl:c=r.length:=by omega
     have HN:=zd (show Below w.heap.size w wi/\∃ L F,GrowR W2.heap.size (w.heap.size+1) D.next.length L F wi/\(∀ i,i<D.next.length->(L i).length<=(a+1)*256)/\∀ i,i<D.next.length->∀ x,x∈L i↔EdgeTo D (a+1) 0 i x by
      obtain⟨h1,L,F,h2,h3,h4⟩:=HI.out
      exact⟨h1,L,F,h2,fun i hi=>by have:=h3 i hi;have:=HROW.out.1;omega,fun i hi x=>by rw [h4 i hi x,HER.out]⟩)
     clear HI;go_wp2;exact⟨⟨a+1,rfl,hp,HN⟩,by simp [intOf];omega⟩
  ·have hdl:decide ((a:Int)<(D.next.length:Int))=false:=by simp;omega
   obtain rfl:a=D.next.length:=by omega
   go_wp2;go_ret;obtain⟨h1,L,F,h2,h3,h4⟩:=HH.out;exact⟨L,_,rfl,h2.rows (by omega),h4,h1⟩
end
section
open Go.RowKit
attribute [local irreducible] FreeW
theorem and_low (n:Nat)(h:n<=1048576):bits .and .u64 (n:Int) 4294967295=(n:Int):=by
 have h1:=bits_and_u64_nat n 4294967295 (by omega) (by omega)
 have e:n&&& 4294967295=n:=by
  have:n&&& 4294967295=n%4294967296:=Nat.and_two_pow_sub_one_eq_mod n 32;omega
 rw [e]at h1;exact h1
set_option maxRecDepth 20000 in
set_option maxHeartbeats 4000000 in
theorem yzbd (n:Nat)(h:n<=1048576)(w:World):Calls Tryz.prog 112 #[.int .u64 1,.int .u64 (n:Nat)] w fun e w'=>e=.returned (.tuple #[.int .u64 0,.int .u64 (n:Nat)])/\w'=w:=by
 have e1:=and_low n h
 have e2:(n:Int) / 4294967296=0:=by omega
 have e3:IntKind.u64.wrap (n:Int)=(n:Int):=by rw [IntKind.wrap_u64];omega
 have e4:bits .and .u64 1 4294967295=1:=by decide+kernel
 have e5:bits .and .u64 0 4294967295=0:=by decide+kernel
 have e6:IntKind.u64.wrap 0=0:=by decide+kernel
 go_enter Tryz.func112,Tryz.ntmps112
 go_wp2
 go_ret2
 exact⟨rfl,rfl⟩
theorem mul_one (n:Nat)(h:n<=1048576)(w:World):Calls Tryz.prog 91 #[.int .u64 1,.int .u64 (n:Nat)] w fun e w'=>e=.returned (.tuple #[.int .u64 0,.int .u64 (n:Nat)])/\w'=w:=by
 have e3:IntKind.u64.wrap (n:Int)=(n:Int):=by rw [IntKind.wrap_u64];omega
 have e6:IntKind.u64.wrap 0=0:=by decide+kernel
 have HM:=zd (yzbd n h w)
 go_enter Tryz.func91,Tryz.ntmps91
 go_wp2_with(go_at_call 112;refine HM.out.mono ?_;rintro e u ⟨rfl,hu⟩;obtain rfl:=hu)
 go_ret2
 exact⟨rfl,rfl⟩
theorem nil_eq (w:World):(binOp BinOp.eql 26 (.slice none 0 0) (.slice none 0 0)).run Tryz.prog w=.ok (.bool true) w:=by kernel_rfl
theorem nil_ne (w:World)(a:Addr)(n c:Nat):(binOp BinOp.eql 26 (.slice (some a) n c) (.slice none 0 0)).run Tryz.prog w=.ok (.bool false) w:=by kernel_rfl
set_option maxRecDepth 20000 in
set_option maxHeartbeats 4000000 in
theorem xzws (l:List Int)(v:Value)(w:World)(h:IntsV w l v)(hnil:l=[]->v=.slice none 0 0)(hl:l.length<=1048576):
 Calls Tryz.prog 92 #[v] w fun e w'=>∃ v',e=.returned v'/\RowI w.heap.size w' v' l/\Below w.heap.size w w':=by
 by_cases hne:l=[]
 ·obtain rfl:=hnil hne
  subst hne;clear hnil h;have hq:=nil_eq w
  go_enter Tryz.func92,Tryz.ntmps92
  go_wp2;go_ret;exact⟨_,rfl,RowI.nil _ _,Below.refl _ _⟩
 ·obtain⟨b,o,c,rfl,hr⟩:=h.run hne
  obtain⟨U,hU⟩:∃ U,w.alloc (.cells #[] 3)=U:=⟨_,rfl⟩
  have hsz:U.heap.size=w.heap.size+1:=by rw [<-hU];simp
  have hb1:Below w.heap.size w U:=by rw [<-hU];exact(Below.refl _ _).alloc (Nat.le_refl _) _
  have hlt:b<w.heap.size:=World.block_lt_of_cell? w ⟨b,o+0,none⟩ (hr.2 0 (List.length_pos_iff.2 hne));have hr':RunAt U l b o c:=⟨hr.1,fun i hi=>(hb1.cell (p:=⟨b,o+i,none⟩) hlt).trans (hr.2 i hi)⟩
  have h0:RowI w.heap.size U (.slice (some ⟨w.heap.size,0,none⟩) 0 0) []:=by
   rw [<-hU];exact⟨rfl,.inr ⟨w.heap.size,0,#[],rfl,Nat.le_refl _,BlkIs.new w _ _,Nat.le_refl _,by unfold maxLen;decide,rfl,rfl⟩⟩
  obtain⟨v',W',hrun,hrow,hgr⟩:=h0.pushes (by omega) hr' (by simp;omega);have HN:=zd (show RowI w.heap.size W' v' l/\Below w.heap.size w W' from⟨hrow,hb1.grown hgr (by omega) (fun k hk=>by injection hk with hk;rw [<-hk];exact Nat.le_refl _)⟩);clear hr hr' h0 hrow hgr hnil;have hq:=nil_ne w ⟨b,o,none⟩ l.length c
  go_enter Tryz.func92,Tryz.ntmps92
  go_wp2_with(refine xzan rfl _ _ 26 26 rfl rfl rfl hrun ?_)
  go_ret;exact⟨_,rfl,HN.out⟩
theorem xzwt (k m:Nat):(fun i=>if k<=i/\i<k+m then(Value.int .i64 (-1))else noneF k i)=noneF (k+m):=by
 funext i
 unfold noneF
 by_cases h:k<=i/\i<k+m
 ·rw [if_pos h,if_pos h.2]
 ·rw [if_neg h]
  by_cases h2:i<k
  ·rw [if_pos h2,if_pos (by omega)]
  ·rw [if_neg h2,if_neg (by omega)]
theorem xzmq {W:World}{g n k:Nat}(h:BlkF W g 3 n (noneF k)){b o dl dc sl sc m:Nat}(hm:m=Nat.min sl dl)(hkm:k+m<=n)(hsrc:∀ j,j<m->W.cell? ⟨b,o+j,none⟩=some (.int .i64 (-1))):
 (Builtin.copy_ #[26,26] 3 #[.slice (some ⟨g,k,none⟩) dl dc,.slice (some ⟨b,o,none⟩) sl sc]).run Tryz.prog W=.ok (goInt m) (W.setCells g k (List.replicate m (.int .i64 (-1))))/\BlkF (W.setCells g k (List.replicate m (.int .i64 (-1)))) g 3 n (noneF (k+m)):=by
 refine⟨?_,?_⟩
 ·have:=run_copy_cells (P:=Tryz.prog) W 26 26 3 3 g k dl dc ⟨b,o,none⟩ sl sc (List.replicate m (.int .i64 (-1))) Tryz.underlying26 (by kernel_rfl) (by simpa using hm) (fun j v hv=>by
   rw [List.getElem?_replicate]at hv
   split at hv
   ·injection hv with hv;subst hv;rw [Addr.add_lit];exact hsrc j (by assumption)
   ·cases hv) (fun j hj=>by rw [BlkF.cell h (by simp at hj;omega)];rfl) (fun j _=>BlkIs.frozen h _) (fun v hv=>by rw [List.eq_of_mem_replicate hv];rfl)
  rw [List.length_replicate]at this;exact this
 ·have:=BlkF.puts (z:=.int .i64 (-1)) m k W (noneF k) h
  rw [xzwt]at this;exact this
set_option maxRecDepth 20000 in
set_option maxHeartbeats 8000000 in
theorem xzrw (n:Nat)(h:n<=1048576)(b:Nat)(w:World)(hx:w.cell? ⟨b,0,none⟩=some (.int .i64 (-1))):Calls Tryz.prog 70 #[.slice (some ⟨b,0,none⟩) 1 1,.int .i64 (n:Nat)] w fun e w'=>
 e=.returned (.slice (some ⟨w.heap.size,0,none⟩) n n)/\BlkF w' w.heap.size 3 n (noneF n)/\Below w.heap.size w w':=by
 obtain⟨W1,hW1⟩:∃ W1,(w.alloc (.cells (cellsN n fun _=>.int .i64 0) 3))=W1:=⟨_,rfl⟩
 have hb1:Below w.heap.size w W1:=by rw [<-hW1];exact(Below.refl _ _).alloc (Nat.le_refl _) _
 have hx1:BlkF W1 w.heap.size 3 n (noneF 0):=by rw [<-hW1,<-xzll];exact BlkIs.new w _ _
 have hmk:=xzhk n (by omega) w;rw [hW1]at hmk;have hlt:b<w.heap.size:=World.block_lt_of_cell? w ⟨b,0,none⟩ hx;have hxc:=(hb1.cell (p:=⟨b,0,none⟩) hlt).trans hx;have HMU:=zd (mul_one n h w)
 have e1:decide ((n:Int)<0)=false:=by simp
 have e3:IntKind.u64.wrap (n:Int)=(n:Int):=by rw [IntKind.wrap_u64];omega
 have e4:IntKind.i64.wrap (n:Int)=(n:Int):=by rw [IntKind.wrap_i64];omega
 have e5:decide ((n:Int)>9223372036854775807)=false:=by simp;omega
 have e6:decide ((9223372036854775807:Int)<(n:Int))=false:=by simp;omega
 obtain⟨m0,hm0⟩:∃ m0,m0=Nat.min 1 n:=⟨_,rfl⟩
 have hm0':m0<=n/\(n=0\/1<=m0):=by
  rw [hm0];simp only [Nat.min_def];split<;>omega
 obtain⟨hcp,hx2⟩:=xzmq hx1 (b:=b) (o:=0) (dl:=n) (dc:=n) (sl:=1) (sc:=1) hm0 (by omega) (fun j hj=>by
  have:j=0:=by rw [hm0]at hj;simp only [Nat.min_def]at hj;split at hj<;>omega
  subst this;exact hxc)
 obtain⟨W2,hW2⟩:∃ W2,W1.setCells w.heap.size 0 (List.replicate m0 (.int .i64 (-1)))=W2:=⟨_,rfl⟩;rw [hW2]at hcp hx2
 have hb2:Below w.heap.size w W2:=by rw [<-hW2];exact(Wrote.cells w.heap.size _ 0 W1).2.1 _ _ (Nat.le_refl _) hb1
 rw [Nat.zero_add]at hx2;have HI:=zd (And.intro hb2 hx2);have hgo:goInt m0=.int .i64 (m0:Nat):=rfl;rw [hgo]at hcp;clear hb1 hx1 hx2 hb2 hW1 hW2 hx hxc hgo hm0
 go_enter Tryz.func70,Tryz.ntmps70
 go_wp2_with(go_at_call 91;refine HMU.out.mono ?_;rintro e u ⟨rfl,hu⟩;obtain rfl:=hu)
 clear hmk hcp HMU e1 e3 e4 e5 e6
 go_loopw [8] (fun i wr=>∃ k:Nat,i=.int .i64 k/\k<=n/\(n=0\/1<=k)/\Hid (Below u.heap.size u wr/\BlkF wr u.heap.size 3 n (noneF k))) (fun i _=>n - (intOf i).toNat)
 case atStart=>exact⟨m0,rfl,hm0'.1,hm0'.2,HI⟩
 case round=>
  obtain⟨k,rfl,hk,hk0,HH⟩:=hrel
  by_cases hp:k<n
  ·have hdl:decide ((k:Int)<(n:Int))=true:=by simp;omega
   obtain⟨m,hm⟩:∃ m,m=Nat.min k (n - k):=⟨_,rfl⟩
   have hmk:k+m<=n/\1<=m:=by rw [hm];simp only [Nat.min_def];split<;>omega
   obtain⟨hcp,hx2⟩:=xzmq (W:=wr.drew) HH.out.2 (b:=u.heap.size) (o:=0) (dl:=n - k) (dc:=n - k) (sl:=k) (sc:=n) hm (by omega) (fun j hj=>by
    have hj2:j<k:=by rw [hm]at hj;simp only [Nat.min_def]at hj;split at hj<;>omega
    have:=BlkF.cell (W:=wr.drew) HH.out.2 (i:=0+j) (by omega)
    rw [this];unfold noneF;rw [if_pos (by omega)])
   have hk1:IntKind.i64.wrap ((k:Int)+(m:Int))=((k+m:Nat):Int):=by rw [IntKind.wrap_i64];omega
   have hgo:goInt m=.int .i64 (m:Nat):=rfl;rw [hgo]at hcp
   have HN:=zd (show Below u.heap.size u (wr.drew.setCells u.heap.size k (List.replicate m (.int .i64 (-1))))/\BlkF (wr.drew.setCells u.heap.size k (List.replicate m (.int .i64 (-1)))) u.heap.size 3 n (noneF (k+m))from
    ⟨(Wrote.cells u.heap.size _ k wr.drew).2.1 _ _ (Nat.le_refl _) HH.out.1.drew,hx2⟩)
   clear hx2 hgo hm
   go_wp2_with fail
   go_region
   go_wp2;exact⟨⟨k+m,rfl,by omega,.inr (by omega),HN⟩,by simp [intOf];omega⟩
  ·have hdl:decide ((k:Int)<(n:Int))=false:=by simp;omega
   obtain rfl:k=n:=by omega
   go_wp2;go_ret;exact⟨rfl,HH.out.2,HH.out.1⟩
end
section
open Go.RowKit
attribute [local irreducible] FreeW
def seenF (q:List Int)(i:Nat):Value:=.bool (decide ((i:Int)∈q))
theorem yzbe (q:List Int)(x:Nat):putV (seenF q) x (.bool true)=seenF (q++[(x:Int)]):=by
 funext i;unfold putV seenF
 by_cases h:i=x
 ·subst h;rw [if_pos rfl,decide_eq_true (by simp)]
 ·rw [if_neg h]
  congr 1
  have:(i:Int)∈q++[(x:Int)]↔(i:Int)∈q:=by
   rw [List.mem_append,List.mem_singleton]
   constructor
   ·rintro(h1|h1)
    ·exact h1
    ·omega
   ·exact .inl
  simp only [this]
theorem xzjq (n:Nat)(h:n<=1099511627776)(w:World):(Instr.makeSlice 81 (.int .i64 (n:Nat)) (.int .i64 (n:Nat))).run Tryz.prog w=.ok (.slice (some ⟨w.heap.size,0,none⟩) n n) (w.alloc (.cells (cellsN n fun _=>.bool false) 4)):=by
 have e:madeCells #[Value.bool false] n=cellsN n fun _=>.bool false:=by
  unfold madeCells cellsN
  apply Array.ext'
  simp [Nat.mod_one]
 rw [<-e];exact run_make_row' (P:=Tryz.prog) 81 4 (.bool false) 1 Tryz.underlying81 xzpi rfl .i64 .i64 n (by omega) (by omega) w
theorem xzqk:(fun _=>Value.bool false)=seenF []:=by funext i;unfold seenF;simp
structure FQ (w0:World)(g n:Nat)(q sn:List Int)(v:Value)(W:World):Prop where
 below:Below w0.heap.size w0 W
 blk:BlkF W g 4 n (seenF sn)
 row:RowI w0.heap.size W v q
 ne:v.ownBlock≠some g
 lo:w0.heap.size<=g
theorem FQ.mark {w0:World}{g n:Nat}{q sn:List Int}{v:Value}{W:World}(h:FQ w0 g n q sn v W)(x:Nat):FQ w0 g n q (sn++[(x:Int)]) v (W.setCell ⟨g,x,none⟩ (.bool true)):=
 ⟨h.below.setCell (p:=⟨g,x,none⟩) h.lo _,by rw [<-yzbe];exact h.blk.put _ _,xzbd h.row fun k hk=>Below.heap_setCell _ _ _ _ (fun e=>h.ne (hk.trans (congrArg some e))),h.ne,h.lo⟩
theorem FQ.push {w0:World}{g n:Nat}{q sn:List Int}{v:Value}{W:World}(h:FQ w0 g n q sn v W)(x:Int)(hl:q.length+1<=1073741824):
 ∃ v' W',(Builtin.append_ #[26,26] 26 #[v,.slice (some ⟨W.heap.size,0,none⟩) 1 1]).run Tryz.prog (W.alloc (.cells #[.int .i64 x] 3))=.ok v' W'/\FQ w0 g n (q++[x]) sn v' W':=by
 obtain⟨U,hU⟩:∃ U,W.alloc (.cells #[.int .i64 x] 3)=U:=⟨_,rfl⟩
 have hsz:U.heap.size=W.heap.size+1:=by rw [<-hU];simp
 have hUB:Below W.heap.size W U:=by rw [<-hU];exact(Below.refl _ _).alloc (Nat.le_refl _) _
 have hnew:U.cell? ⟨W.heap.size,0,none⟩=some (.int .i64 x):=by
  rw [<-hU];exact(BlkIs.new W 3 #[.int .i64 x]).cell 0
 have h1:=h.row.step hUB;have hle:=h.below.size;obtain⟨v',W',hr,hown,hgr,_,hob⟩:=xzfp h1 hnew hl (by omega) (c:=1);rw [hU];have hgl:=BlkIs.lt h.blk;refine⟨v',W',hr,?_,(hgr.block g (by omega) (fun e=>h.ne e.symm)).trans ((hUB.block g hgl).trans h.blk),hown,?_,h.lo⟩
 ·exact(h.below.trans (hUB.mono hle)).grown hgr (by omega) (fun k hk=>(World.ownsRow.lt h1 k hk).1)
 ·rcases hob with e|e
  ·rw [e];exact h.ne
  ·rw [e];intro e2;injection e2 with e2;omega
theorem xzog (q r:List Int){c:Nat}(hc:c<r.length):addRowQ q (r.take (c+1))=addQ (addRowQ q (r.take c)) r[c]:=by
 rw [List.take_succ_eq_append_getElem hc];unfold addRowQ;rw [List.foldl_append];rfl
set_option maxRecDepth 20000 in
set_option maxHeartbeats 8000000 in
theorem xzql (next:List (List Int))(fr:List Int)(vN vF:Value)(w:World)(hN:RowsI w next vN)(hF:IntsV w fr vF)(hnil:fr=[]->vF=.slice none 0 0)(hw:WfN next)(hf:InR next.length fr)(hn:next.length<=1048576):
 Calls Tryz.prog 71 #[vN,vF] w fun e w'=>∃ v',e=.returned v'/\RowI w.heap.size w' v' (foundL next fr)/\Below w.heap.size w w':=by
 obtain⟨An,cn,rfl,hcn,hgn⟩:=hN;have hfl:=xzcb _ _ hf;have HCL:=zd (xzws fr vF w hF hnil (by omega));have HGN:=zd hgn;have HW:=zd (And.intro hw hf);clear hF hnil hgn hw hf
 go_enter Tryz.func71,Tryz.ntmps71
 go_wp2_with fail
 go_at_call 92
 refine HCL.out.mono ?_;rintro e u ⟨vq,rfl,hrow,hbu⟩;obtain⟨W2,hW2⟩:∃ W2,u.alloc (.cells (cellsN next.length fun _=>.bool false) 4)=W2:=⟨_,rfl⟩;have hmk:=xzjq next.length (by omega) u;rw [hW2]at hmk
 have hb2:Below u.heap.size u W2:=by rw [<-hW2];exact(Below.refl _ _).alloc (Nat.le_refl _) _
 have HQ:=zd (show FQ w u.heap.size next.length fr [] vq W2 from
  ⟨hbu.trans (hb2.mono hbu.size),by rw [<-hW2,<-xzqk];exact BlkIs.new u _ _,hrow.step hb2,fun e=>by have:=(World.ownsRow.lt hrow _ e).2;omega,hbu.size⟩)
 obtain⟨Aq,cq,rfl,hcq⟩:=xzbj hrow;clear hrow hbu hb2 hW2 HCL;obtain⟨g,hg⟩:∃ g,g=u.heap.size:=⟨_,rfl⟩;rw [<-hg]at HQ hmk;clear hg;go_wp2;clear hmk
 go_loopw [8,19] (fun _ i wr=>∃ k:Nat,i=.int .i64 k/\k<=fr.length/\Hid (FQ w g next.length fr (fr.take k) (.slice Aq fr.length cq) wr)) (fun _ i _=>fr.length - (intOf i).toNat)
 case atStart=>exact⟨0,rfl,Nat.zero_le _,HQ⟩
 case round=>
  obtain⟨k,rfl,hk,HH⟩:=hrel;obtain⟨w1,rfl⟩:∃ w1,w1=wr:=⟨_,rfl⟩
  by_cases hp:k<fr.length
  ·have hk1:IntKind.i64.wrap ((k:Int)+1)=((k+1:Nat):Int):=by rw [IntKind.wrap_i64];omega
   have hdl:decide ((k:Int)<(fr.length:Int))=true:=by simp;omega
   obtain⟨A',c',e',_,hs⟩:=HH.out.row.ints;obtain⟨b,o,e2,hlt,hgc⟩:=hs (by intro e;subst e;simp at hp)
   injection e' with e'
   rw [e2]at e';subst e';have hcell:=hgc k hp;obtain⟨x,hx⟩:∃ x:Nat,fr[k]=(x:Nat):=⟨fr[k].toNat,by have:=(HW.out.2.2 _ (List.getElem_mem hp)).1;omega⟩
   have hxn:x<next.length:=by have:=(HW.out.2.2 _ (List.getElem_mem hp)).2;omega
   have i1:decide ((x:Int)<(next.length:Int))=true:=by simp;omega
   have hc2:=BlkF.cell HH.out.blk hxn;have hfz:=BlkIs.frozen HH.out.blk x
   have HN:=zd (show FQ w g next.length fr (fr.take (k+1)) (.slice (some ⟨b,o,none⟩) fr.length cq) (w1.setCell ⟨g,x,none⟩ (.bool true))by
    rw [List.take_succ_eq_append_getElem hp,hx];exact HH.out.mark x)
   rw [hx]at hcell;clear hgc hs hx;go_wp2;exact⟨⟨k+1,rfl,hp,HN⟩,by simp [intOf];omega⟩
  ·have hdl:decide ((k:Int)<(fr.length:Int))=false:=by simp;omega
   obtain rfl:k=fr.length:=by omega
   have H1:=zd (show FQ w g next.length fr fr (.slice Aq fr.length cq) w1 by have:=HH.out;rwa [List.take_length]at this);clear HH;go_wp2
   go_loopw [5,9,11,41] (fun v i _ _ wr=>∃ k:Nat,i=.int .i64 k/\k<=(qTo next fr k).length/\Hid (FQ w g next.length (qTo next fr k) (qTo next fr k) v wr)) (fun _ i _ _ _=>next.length+1 - (intOf i).toNat)
   case atStart=>exact⟨0,rfl,Nat.zero_le _,H1⟩
   case round=>
    obtain⟨k,rfl,hk,HH⟩:=hrel;obtain⟨w3,rfl⟩:∃ w3,w3=wr:=⟨_,rfl⟩;have hkn:(qTo next fr k).length<=next.length:=xzwl HW.out.1 HW.out.2 k;have hin:=xzwk HW.out.1 HW.out.2 k
    by_cases hp:k<(qTo next fr k).length
    ·have hk1:IntKind.i64.wrap ((k:Int)+1)=((k+1:Nat):Int):=by rw [IntKind.wrap_i64];omega
     have hq1:qTo next fr (k+1)=addRowQ (qTo next fr k) (next.getD ((qTo next fr k)[k]).toNat []):=by
      show(match (qTo next fr k)[k]? with|none=>_|some x=>addRowQ (qTo next fr k) (next.getD x.toNat []))=_
      rw [List.getElem?_eq_getElem hp]
     have hkl:k+1<=(qTo next fr (k+1)).length:=by have:=(xzwh next fr k).length_le;omega
     have hx0:=hin.2 _ (List.getElem_mem hp);have HQ1:=zd hq1;obtain⟨q,hqe⟩:∃ q,qTo next fr k=q:=⟨_,rfl⟩;have hroww:=HH.out.row;simp only [hqe]at hp hq1 hx0 HH hkn hroww HQ1
     have hin':InR next.length q:=by rw [<-hqe];exact hin
     clear hq1 hk hin
     have hdl:decide ((k:Int)<(q.length:Int))=true:=by simp;omega
     obtain⟨A',c',e',_,hs⟩:=hroww.ints;subst e';obtain⟨b,o,rfl,hlt,hgc⟩:=hs (by intro e;subst e;simp at hp);have hcell:=hgc k hp;obtain⟨x,hx⟩:∃ x:Nat,q[k]=(x:Nat):=⟨q[k].toNat,by omega⟩
     have hxn:x<next.length:=by omega
     have i1:decide ((x:Int)<(next.length:Int))=true:=by simp;omega
     rw [hx]at hcell;obtain⟨bn,on,rfl,hltn,hgnr⟩:=HGN.out (by intro e;rw [e]at hxn;simp at hxn);obtain⟨vr,hcr,hvr⟩:=hgnr x hxn;have hcr':=(HH.out.below.cell (p:=⟨bn,on+x,none⟩) hltn).trans hcr
     have HQ2:=zd (show qTo next fr (k+1)=addRowQ q next[x]by
      rw [HQ1.out,hx,Int.toNat_natCast,List.getD_eq_getElem?_getD,List.getElem?_eq_getElem hxn];rfl)
     have hrr:=HW.out.1 _ (List.getElem_mem hxn);generalize next[x]=r at*;obtain⟨Ar,cr,rfl,hcrr,hgr⟩:=hvr;have HGR:=zd hgr;have HRR:=zd hrr;have HKL:=zd hkl;have HIQ:=zd (fun c=>xzcb _ _ (xzif (r.take c) q hin' (fun x hx=>hrr x (List.mem_of_mem_take hx))));clear hgc hs hx hx0 hcr hgr hrr HQ1 hqe hroww hgnr hkl hin';go_wp2;clear hcell hcr' H1
     go_loopw [5,11,41] (fun v _ i wr=>∃ c:Nat,i=.int .i64 c/\c<=r.length/\Hid (FQ w g next.length (addRowQ q (r.take c)) (addRowQ q (r.take c)) v wr)) (fun _ _ i _=>r.length - (intOf i).toNat)
     case atStart=>exact⟨0,rfl,Nat.zero_le _,HH⟩
     case round=>
      obtain⟨c,rfl,hc,HI⟩:=hrel;obtain⟨w4,rfl⟩:∃ w4,w4=wr:=⟨_,rfl⟩
      by_cases hq:c<r.length
      ·have hk2:IntKind.i64.wrap ((c:Int)+1)=((c+1:Nat):Int):=by rw [IntKind.wrap_i64];omega
       have hdl2:decide ((c:Int)<(r.length:Int))=true:=by simp;omega
       obtain⟨br,or,rfl,hltr,hgr⟩:=HGR.out (by intro e;rw [e]at hq;simp at hq);have hcc:=(HI.out.below.cell (p:=⟨br,or+c,none⟩) hltr).trans (hgr c hq);have hyb:=HRR.out _ (List.getElem_mem hq);have HSU:=zd (xzog q r hq);have HLN:=zd (HIQ.out c);clear hgr;generalize r[c]=y at*;obtain⟨p,hpe⟩:∃ p,addRowQ q (r.take c)=p:=⟨_,rfl⟩;rw [hpe]at HI HSU HLN;clear hpe
       by_cases hy:y= -1
       ·subst hy
        have HN:=zd (show FQ w g next.length (addRowQ q (r.take (c+1))) (addRowQ q (r.take (c+1))) u5 w4 by
         rw [HSU.out]
         have e:addQ p (-1)=p:=by unfold addQ;rw [if_pos (.inl rfl)]
         rw [e];exact HI.out)
        clear hyb;go_wp2;exact⟨⟨c+1,rfl,hq,HN⟩,by simp [intOf];omega⟩
       ·obtain⟨t,rfl⟩:∃ t:Nat,y=(t:Nat):=⟨y.toNat,by omega⟩
        have ht:t<next.length:=by omega
        have e1:=ne_m1 t
        have i1:decide ((t:Int)<(next.length:Int))=true:=by simp;omega
        have hc2:=BlkF.cell HI.out.blk ht;have hfz:=BlkIs.frozen HI.out.blk t;unfold seenF at hc2
        by_cases hm:(t:Int)∈p
        ·rw [decide_eq_true hm]at hc2
         have HN:=zd (show FQ w g next.length (addRowQ q (r.take (c+1))) (addRowQ q (r.take (c+1))) u5 w4 by
          rw [HSU.out]
          have e:addQ p (t:Int)=p:=by unfold addQ;rw [if_pos (.inr hm)]
          rw [e];exact HI.out)
         clear hyb hm hy;go_wp2;exact⟨⟨c+1,rfl,hq,HN⟩,by simp [intOf];omega⟩
        ·rw [decide_eq_false hm]at hc2
         obtain⟨v',W',hrun,hfq⟩:=(HI.out.mark t).push (t:Int) (by have:=HLN.out;omega)
         have HN:=zd (show FQ w g next.length (addRowQ q (r.take (c+1))) (addRowQ q (r.take (c+1))) v' W' by
          rw [HSU.out]
          have e:addQ p (t:Int)=p++[(t:Int)]:=by unfold addQ;rw [if_neg (by simp [hm,hy])]
          rw [e];exact hfq)
         rw [World.size_setCell]at hrun;clear hyb hm hy hfq
         go_wp2_with(refine xzan rfl _ _ 26 26 rfl rfl rfl hrun ?_)
         exact⟨⟨c+1,rfl,hq,HN⟩,by simp [intOf];omega⟩
      ·have hdl2:decide ((c:Int)<(r.length:Int))=false:=by simp;omega
       obtain rfl:c=r.length:=by omega
       have HN:=zd (show ∀ v,FQ w g next.length (addRowQ q (r.take r.length)) (addRowQ q (r.take r.length)) v w4->FQ w g next.length (qTo next fr (k+1)) (qTo next fr (k+1)) v w4 by
        intro v h;rwa [List.take_length,<-HQ2.out]at h)
       go_wp2;exact⟨⟨k+1,rfl,HKL.out,zd (HN.out _ HI.out)⟩,by simp [intOf];omega⟩
    ·have HE:=zd (yzco HW.out.1 HW.out.2 (k:=k) (by omega))
     obtain⟨Av,cv,rfl,_⟩:=xzbj HH.out.row
     have hdl:decide ((k:Int)<((qTo next fr k).length:Int))=false:=by simp;omega
     go_wp2;go_ret;exact⟨_,rfl,by rw [<-HE.out];exact HH.out.row,HH.out.below⟩
end
section
open Go.RowKit
attribute [local irreducible] FreeW
def tagdL (D:Df)(k:Nat):List Int:=((List.range k).filter fun a=>decide (D.tag.getD a (-1)≠ -1)).map fun(a:Nat)=>(a:Int)
theorem tagdL_mem {D:Df}{k:Nat}{x:Int}:x∈tagdL D k↔ ∃ a:Nat,x=(a:Int)/\a<k/\D.tag.getD a (-1)≠ -1:=by
 unfold tagdL;rw [List.mem_map]
 constructor
 ·rintro⟨a,h,rfl⟩
  obtain⟨h1,h2⟩:=List.mem_filter.1 h;exact⟨a,rfl,List.mem_range.1 h1,of_decide_eq_true h2⟩
 ·rintro⟨a,rfl,h1,h2⟩
  exact⟨a,List.mem_filter.2 ⟨List.mem_range.2 h1,decide_eq_true h2⟩,rfl⟩
theorem xzku (D:Df)(k:Nat):InR k (tagdL D k):=by
 refine⟨?_,fun x hx=>?_⟩
 ·unfold tagdL
  rw [List.nodup_iff_pairwise_ne,List.pairwise_map]
  exact(List.Pairwise.filter _ List.pairwise_lt_range).imp fun h e=>by omega
 ·obtain⟨a,rfl,h,_⟩:=tagdL_mem.1 hx
  omega
theorem xzwu (D:Df)(k:Nat):tagdL D (k+1)=if D.tag.getD k (-1)≠ -1 then tagdL D k++[(k:Int)]else tagdL D k:=by
 unfold tagdL;rw [List.range_succ,List.filter_append,List.map_append]
 split
 ·rename_i h
  have e:decide (D.tag.getD k (-1)≠ -1)=true:=decide_eq_true h;rw [List.filter_cons,if_pos e];rfl
 ·rename_i h
  have e: ¬ decide (D.tag.getD k (-1)≠ -1)=true:=by rw [decide_eq_true_eq];exact h
  rw [List.filter_cons,if_neg e];simp
theorem xzqm {n:Nat}(L:Nat->List Int){i:Nat}(h:i<n):((List.range n).map L).getD i []=L i:=by
 rw [List.getD_eq_getElem?_getD,List.getElem?_map,List.getElem?_range h];rfl
theorem xzkv {D:Df}{L:Nat->List Int}(hL:∀ i,i<D.next.length->∀ x,x∈L i↔EdgeTo D D.next.length 0 i x):
 WfN ((List.range D.next.length).map L)/\∀ i,i<D.next.length->((i:Int)∈foundL ((List.range D.next.length).map L) (tagdL D D.next.length)↔Lv D i):=by
 have hlen:((List.range D.next.length).map L).length=D.next.length:=by simp
 have he:∀ i,i<D.next.length->∀ x,x∈L i↔ ∃ p:Nat,x=(p:Int)/\p<D.next.length/\(i:Int)∈D.next.getD p []:=fun i hi x=>by
  rw [hL i hi x];unfold EdgeTo
  constructor
  ·rintro⟨p,rfl,h|⟨_,h⟩⟩
   ·exact⟨p,rfl,h⟩
   ·simp at h
  ·rintro⟨p,rfl,h⟩
   exact⟨p,rfl,.inl h⟩
 have hwf:WfN ((List.range D.next.length).map L):=by
  intro r hr x hx;rw [hlen];obtain⟨i,hi,rfl⟩:=List.mem_map.1 hr;obtain⟨p,rfl,hp,_⟩:=(he i (List.mem_range.1 hi) x).1 hx;omega
 have hin:InR ((List.range D.next.length).map L).length (tagdL D D.next.length):=by rw [hlen];exact xzku D _
 refine⟨hwf,fun i hi=>⟨fun h=>?_,fun h=>?_⟩⟩
 ·refine xzqh (Lv D) (fun x hx=>?_) (fun x hx y hy hne=>?_) h
  ·obtain⟨a,rfl,h1,h2⟩:=tagdL_mem.1 hx
   exact .tag (by omega) (by omega) (by rw [Int.toNat_natCast];exact h2)
  ·have hxin:=hx.in
   rw [xzqm L (by omega)]at hy;obtain⟨p,rfl,hp,hp2⟩:=(he x.toNat (by omega) y).1 hy;refine .step (by omega) (by omega) (x:=x) ?_ hx;rw [Int.toNat_natCast]
   rwa [Int.toNat_of_nonneg hxin.1]at hp2
 ·generalize(i:Int)=z at h
  induction h with
  |tag h1 h2 h3=>
   rename_i j
   refine xzig (tagdL_mem.2 ⟨j.toNat,by omega,by omega,h3⟩)
  |step h1 h2 h3 h4 ih=>
   rename_i j x
   have hxin:=h4.in;refine xzem hwf hin ih ?_ (by omega);rw [xzqm L (by omega)];refine(he x.toNat (by omega) j).2 ⟨j.toNat,by omega,by omega,?_⟩
   rwa [Int.toNat_of_nonneg hxin.1]
theorem MayD.short {D:Df}(h:MayD D):∀ r∈D.next,r.length<=256:=fun r hr=>by
 have h1:=(h.rows r hr).1;have h2:=(mayB_iff.1 h.cls).2;have h3:=xztd D.of 256;omega
set_option maxRecDepth 20000 in
set_option maxHeartbeats 8000000 in
theorem yzfh (D:Df)(v:Value)(w:World)(h:DfAt w D v)(hm:MayD D):
 Calls Tryz.prog 69 #[v] w fun e w'=>∃ g,e=.returned (.slice (some ⟨g,0,none⟩) D.next.length D.next.length)/\w.heap.size<=g/\BlkF w' g 4 D.next.length (fun i=>.bool (lvB D i))/\Below w.heap.size w w':=by
 have HAT:=zd h;obtain⟨vn,vt,rfl,hrn,hrt⟩:=h;obtain⟨W1,hbx,hsz,hb1,hx1⟩:=xzat D.of D.n vn vt w;have hd1:=DfB.of hx1;obtain⟨c256,c257,c258⟩:=hd1.cells;obtain⟨An,cn,rfl,hcn,_⟩:=hrn;obtain⟨At,ct,rfl,hct,hgt⟩:=hrt.step hb1;have HB:=zd (And.intro hb1 hd1);have HGT:=zd hgt;have HM:=zd hm;have hfew:=hm.few;have htl:=hm.tags;obtain⟨dc,hdc⟩:∃ dc,dfC D.of D.n (.slice An D.next.length cn) (.slice At D.tag.length ct)=dc:=⟨_,rfl⟩;rw [hdc]at hbx HAT
 have hds:dc.size=259:=by rw [<-hdc];exact xzac _ _ _ _
 rw [hdc];have HDC:=zd hdc;clear hrt hb1 hx1 hd1 hdc hgt hm
 go_enter Tryz.func69,Tryz.ntmps69
 go_wp2;have HC:=zd (And.intro c257 hsz);clear hbx hds c256 c257 c258 hsz
 go_loopw [3,4,5,12] (fun v _ _ i wr=>∃ k:Nat,i=.int .i64 k/\k<=D.tag.length/\Hid (Below W1.heap.size W1 wr/\RowI W1.heap.size wr v (tagdL D k)/\(tagdL D k=[]->v=.slice none 0 0))) (fun _ _ _ i _=>D.tag.length - (intOf i).toNat)
 case atStart=>exact⟨0,rfl,Nat.zero_le _,zd ⟨Below.refl _ _,RowI.nil _ _,fun _=>rfl⟩⟩
 case round=>
  obtain⟨k,rfl,hk,HH⟩:=hrel;obtain⟨w1,rfl⟩:∃ w1,w1=wr:=⟨_,rfl⟩
  by_cases hp:k<D.tag.length
  ·have hk1:IntKind.i64.wrap ((k:Int)+1)=((k+1:Nat):Int):=by rw [IntKind.wrap_i64];omega
   have hdl:decide ((k:Int)<(D.tag.length:Int))=true:=by simp;omega
   obtain⟨b,o,rfl,hlt,hgc⟩:=HGT.out (by intro e;rw [e]at hp;simp at hp);have hcell:=(HH.out.1.cell (p:=⟨b,o+k,none⟩) hlt).trans (hgc k hp);have hts:=xzwu D k
   have hgd:D.tag.getD k (-1)=D.tag[k]:=by rw [List.getD_eq_getElem?_getD,List.getElem?_eq_getElem hp];rfl
   rw [hgd]at hts;clear hgc hgd;generalize D.tag[k]=t at*
   by_cases h1:t= -1
   ·subst h1
    have HN:=zd (show Below W1.heap.size W1 w1/\RowI W1.heap.size w1 u3 (tagdL D (k+1))/\(tagdL D (k+1)=[]->u3=.slice none 0 0)by
     rw [hts,if_neg (by simp)];exact HH.out)
    clear hts;go_wp2;exact⟨⟨k+1,rfl,hp,HN⟩,by simp [intOf];omega⟩
   ·have e1:(t != -1)=true:=by rw [bne_iff_ne];exact h1
    have e1b:decide (t= -1)=false:=by simp [h1]
    have hl:=xzcb _ _ (xzku D k);obtain⟨v',W',hrun,hrow,hb'⟩:=HH.out.2.1.push (HH.out.1.size) (k:Int) (by omega)
    have HN:=zd (show Below W1.heap.size W1 W'/\RowI W1.heap.size W' v' (tagdL D (k+1))/\(tagdL D (k+1)=[]->v'=.slice none 0 0)by
     rw [hts,if_pos h1];exact⟨HH.out.1.trans hb',hrow,fun e=>by simp at e⟩)
    clear hts hrow hb' h1
    go_wp2_with(refine xzan rfl _ _ 26 26 rfl rfl rfl hrun ?_)
    exact⟨⟨k+1,rfl,hp,HN⟩,by simp [intOf];omega⟩
  ·have hdl:decide ((k:Int)<(D.tag.length:Int))=false:=by simp;omega
   obtain rfl:k=D.tag.length:=by omega
   have c257:=(HH.out.1.cell (p:=⟨w.heap.size,257,none⟩) (by show w.heap.size<_;have:=HC.out.2;omega)).trans HC.out.1;obtain⟨W2,hW2⟩:∃ W2,w1.alloc (.cells (cellsN D.next.length fun _=>.bool false) 4)=W2:=⟨_,rfl⟩;have hmk:=xzjq D.next.length (by omega) w1;rw [hW2]at hmk
   have hb2:Below w1.heap.size w1 W2:=by rw [<-hW2];exact(Below.refl _ _).alloc (Nat.le_refl _) _
   have hs2:W2.heap.size=w1.heap.size+1:=by rw [<-hW2];simp
   have hg2:BlkF W2 w1.heap.size 4 D.next.length (seenF []):=by rw [<-hW2,<-xzqk];exact BlkIs.new w1 _ _
   have hb12:Below W1.heap.size W1 W2:=HH.out.1.trans (hb2.mono HH.out.1.size);have hb02:Below w.heap.size w W2:=HB.out.1.trans (hb12.mono HB.out.1.size);have HD2:=zd (HB.out.2.step hb12);have HBK:=zd (yzfg D _ W2 (HAT.out.step hb02) HM.out.few (fun r hr=>⟨HM.out.short r hr,(HM.out.rows r hr).2⟩))
   have HT:=zd (show RowI W1.heap.size W2 u3 (tagdL D D.next.length)/\(tagdL D D.next.length=[]->u3=.slice none 0 0)by
    rw [<-htl];exact⟨HH.out.2.1.step hb2,HH.out.2.2⟩)
   have HX:=zd (And.intro hb02 (And.intro hg2 hs2))
   have hg0:w.heap.size<=w1.heap.size:=by have:=HH.out.1.size;have:=HB.out.1.size;omega
   have hg1:W1.heap.size<=w1.heap.size:=HH.out.1.size;clear HH hb2 hs2 hg2 hb12 hb02 hW2
   go_wp2_with(first
    |((with_reducible refine xzbt (.tmp 1) ?_ ?_ HD2.out ?_ ?_);exact rfl;exact rfl;kernel_rfl;rw [HDC.out])
    |(go_at_call 90;refine HBK.out.mono ?_;rintro e w3 ⟨L,vb,rfl,hrb,hLe,hb3⟩;have HB3:=zd (And.intro hrb (And.intro hLe hb3));clear hrb hLe hb3)
    |(go_at_call 71
      have hlf:=xzkv HB3.out.2.1
      have hlen:((List.range D.next.length).map L).length=D.next.length:=by simp
      refine(xzql ((List.range D.next.length).map L) (tagdL D D.next.length) vb u3 w3 HB3.out.1 ((HT.out.1.step HB3.out.2.2).ints) HT.out.2 hlf.1 (by rw [hlen];exact xzku D _) (by rw [hlen];omega)).mono ?_;rintro e w4 ⟨vq,rfl,hrq,hb4⟩;obtain⟨Q,hQ⟩:∃ Q,foundL ((List.range D.next.length).map L) (tagdL D D.next.length)=Q:=⟨_,rfl⟩;rw [hQ]at hrq hlf;have HLF:=zd hlf.2
      have hqin:InR D.next.length Q:=by rw [<-hQ];have:=xzfq hlf.1 (fr:=tagdL D D.next.length) (by rw [hlen];exact xzku D _);rwa [hlen]at this
      have hs3:=HB3.out.2.2.size;have hs2:=HX.out.2.2
      have HFQ:=zd (show FQ w w1.heap.size D.next.length Q [] vq w4 from
       ⟨(HX.out.1.trans (HB3.out.2.2.mono (by omega))).trans (hb4.mono (by omega)),(hb4.block w1.heap.size (by omega)).trans ((HB3.out.2.2.block w1.heap.size (by omega)).trans HX.out.2.1),hrq.low (by omega),fun e=>by have:=(World.ownsRow.lt hrq _ e).1;omega,hg0⟩)
      obtain⟨Aq,cq,rfl,hcq⟩:=xzbj hrq;have HQI:=zd hqin;have hql:=xzcb _ _ hqin
      clear hlf hlen hrq hb4 hQ hqin hs3 hs2))
   clear hmk c257;obtain⟨g,hg⟩:∃ g,g=w1.heap.size:=⟨_,rfl⟩;rw [<-hg]at HFQ hg0;rw [<-hg];clear hg HX HT HD2 HB3
   go_loopw [8,33] (fun _ i wr=>∃ k:Nat,i=.int .i64 k/\k<=Q.length/\Hid (FQ w g D.next.length Q (Q.take k) (.slice Aq Q.length cq) wr)) (fun _ i _=>Q.length - (intOf i).toNat)
   case atStart=>exact⟨0,rfl,Nat.zero_le _,HFQ⟩
   case round=>
    obtain⟨k,rfl,hk,HH⟩:=hrel;obtain⟨w5,rfl⟩:∃ w5,w5=wr:=⟨_,rfl⟩
    by_cases hp:k<Q.length
    ·have hk1:IntKind.i64.wrap ((k:Int)+1)=((k+1:Nat):Int):=by rw [IntKind.wrap_i64];omega
     have hdl:decide ((k:Int)<(Q.length:Int))=true:=by simp;omega
     obtain⟨A',c',e',_,hs⟩:=HH.out.row.ints;obtain⟨b,o,e2,hlt,hgc⟩:=hs (by intro e;subst e;simp at hp)
     injection e' with e'
     rw [e2]at e';subst e';have hcell:=hgc k hp;obtain⟨x,hx⟩:∃ x:Nat,Q[k]=(x:Nat):=⟨Q[k].toNat,by have:=(HQI.out.2 _ (List.getElem_mem hp)).1;omega⟩
     have hxn:x<D.next.length:=by have:=(HQI.out.2 _ (List.getElem_mem hp)).2;omega
     have i1:decide ((x:Int)<(D.next.length:Int))=true:=by simp;omega
     have hc2:=BlkF.cell HH.out.blk hxn;have hfz:=BlkIs.frozen HH.out.blk x
     have HN:=zd (show FQ w g D.next.length Q (Q.take (k+1)) (.slice (some ⟨b,o,none⟩) Q.length cq) (w5.setCell ⟨g,x,none⟩ (.bool true))by
      rw [List.take_succ_eq_append_getElem hp,hx];exact HH.out.mark x)
     rw [hx]at hcell;clear hgc hs hx;go_wp2;exact⟨⟨k+1,rfl,hp,HN⟩,by simp [intOf];omega⟩
    ·have hdl:decide ((k:Int)<(Q.length:Int))=false:=by simp;omega
     obtain rfl:k=Q.length:=by omega
     have HF:=zd (show BlkF w5 g 4 D.next.length (fun i=>.bool (lvB D i))by
      have h1:=HH.out.blk;rw [List.take_length]at h1;unfold BlkF at h1 ⊢
      have e:cellsN D.next.length (seenF Q)=cellsN D.next.length (fun i=>.bool (lvB D i)):=xzap fun i hi=>by
       unfold seenF
       congr 1
       rw [Bool.eq_iff_iff,decide_eq_true_eq,lvB_iff];exact HLF.out i hi
      rw [<-e];exact h1)
     go_wp2;go_ret;exact⟨g,rfl,hg0,HF.out,HH.out.below⟩
end
end Go.Proofs.YtdjpphjpnkfeiaaGreatDoor
