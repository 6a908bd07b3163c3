/-
 WHAT dfa's live ANSWERS: a contract. Condition: an automaton that may be.
-/
import Derived.Test.YtgbljnnmhmlifaaGreatDoorQG43
namespace Go.Proofs.YtgbljnnmhmlifaaGreatDoor
section
open Go.RowKit
attribute [local irreducible] FreeW
def tagdL (D:Df)(k:Nat):List Int:=((List.range k).filter fun a=>decide (D.tag.getD a (-1)≠ -1)).map fun(a:Nat)=>(a:Int)
theorem tagdL_mem {D:Df}{k:Nat}{x:Int}:x∈tagdL D k↔ ∃ a:Nat,x=(a:Int)/\a<k/\D.tag.getD a (-1)≠ -1:=by
 unfold tagdL;rw [List.mem_map]
 constructor
 ·rintro⟨a,h,rfl⟩
  obtain⟨h1,h2⟩:=List.mem_filter.1 h;exact⟨a,rfl,List.mem_range.1 h1,of_decide_eq_true h2⟩
 ·rintro⟨a,rfl,h1,h2⟩
  exact⟨a,List.mem_filter.2 ⟨List.mem_range.2 h1,decide_eq_true h2⟩,rfl⟩
theorem xzlo (D:Df)(k:Nat):InR k (tagdL D k):=by
 refine⟨?_,fun x hx=>?_⟩
 ·unfold tagdL
  rw [List.nodup_iff_pairwise_ne,List.pairwise_map]
  exact(List.Pairwise.filter _ List.pairwise_lt_range).imp fun h e=>by omega
 ·obtain⟨a,rfl,h,_⟩:=tagdL_mem.1 hx
  omega
theorem xzzl (D:Df)(k:Nat):tagdL D (k+1)=if D.tag.getD k (-1)≠ -1 then tagdL D k++[(k:Int)]else tagdL D k:=by
 unfold tagdL;rw [List.range_succ,List.filter_append,List.map_append]
 split
 ·rename_i h
  have e:decide (D.tag.getD k (-1)≠ -1)=true:=decide_eq_true h;rw [List.filter_cons,if_pos e];rfl
 ·rename_i h
  have e: ¬ decide (D.tag.getD k (-1)≠ -1)=true:=by rw [decide_eq_true_eq];exact h
  rw [List.filter_cons,if_neg e];simp
theorem xzso {n:Nat}(L:Nat->List Int){i:Nat}(h:i<n):((List.range n).map L).getD i []=L i:=by
 rw [List.getD_eq_getElem?_getD,List.getElem?_map,List.getElem?_range h];rfl
theorem xzlp {D:Df}{L:Nat->List Int}(hL:∀ i,i<D.next.length->∀ x,x∈L i↔EdgeTo D D.next.length 0 i x):
 WfN ((List.range D.next.length).map L)/\∀ i,i<D.next.length->((i:Int)∈foundL ((List.range D.next.length).map L) (tagdL D D.next.length)↔Lv D i):=by
 have hlen:((List.range D.next.length).map L).length=D.next.length:=by simp
 have he:∀ i,i<D.next.length->∀ x,x∈L i↔ ∃ p:Nat,x=(p:Int)/\p<D.next.length/\(i:Int)∈D.next.getD p []:=fun i hi x=>by
  rw [hL i hi x];unfold EdgeTo
  constructor
  ·rintro⟨p,rfl,h|⟨_,h⟩⟩
   ·exact⟨p,rfl,h⟩
   ·simp at h
  ·rintro⟨p,rfl,h⟩
   exact⟨p,rfl,.inl h⟩
 have hwf:WfN ((List.range D.next.length).map L):=by
  intro r hr x hx;rw [hlen];obtain⟨i,hi,rfl⟩:=List.mem_map.1 hr;obtain⟨p,rfl,hp,_⟩:=(he i (List.mem_range.1 hi) x).1 hx;omega
 have hin:InR ((List.range D.next.length).map L).length (tagdL D D.next.length):=by rw [hlen];exact xzlo D _
 refine⟨hwf,fun i hi=>⟨fun h=>?_,fun h=>?_⟩⟩
 ·refine xzsh (Lv D) (fun x hx=>?_) (fun x hx y hy hne=>?_) h
  ·obtain⟨a,rfl,h1,h2⟩:=tagdL_mem.1 hx
   exact .tag (by omega) (by omega) (by rw [Int.toNat_natCast];exact h2)
  ·have hxin:=hx.in
   rw [xzso L (by omega)]at hy;obtain⟨p,rfl,hp,hp2⟩:=(he x.toNat (by omega) y).1 hy;refine .step (by omega) (by omega) (x:=x) ?_ hx;rw [Int.toNat_natCast]
   rwa [Int.toNat_of_nonneg hxin.1]at hp2
 ·generalize(i:Int)=z at h
  induction h with
  |tag h1 h2 h3=>
   rename_i j
   refine xzjb (tagdL_mem.2 ⟨j.toNat,by omega,by omega,h3⟩)
  |step h1 h2 h3 h4 ih=>
   rename_i j x
   have hxin:=h4.in;refine xzja hwf hin ih ?_ (by omega);rw [xzso L (by omega)];refine(he x.toNat (by omega) j).2 ⟨j.toNat,by omega,by omega,?_⟩
   rwa [Int.toNat_of_nonneg hxin.1]
theorem MayD.short {D:Df}(h:MayD D):∀ r∈D.next,r.length<=256:=fun r hr=>by
 have h1:=(h.rows r hr).1;have h2:=(mayB_iff.1 h.cls).2;have h3:=xzxc D.of 256;omega
set_option maxRecDepth 20000 in
set_option maxHeartbeats 8000000 in
theorem yzhz (D:Df)(v:Value)(w:World)(h:DfAt w D v)(hm:MayD D):
 Calls Tryz.prog 50 #[v] w fun e w'=>∃ g,e=.returned (.slice (some ⟨g,0,none⟩) D.next.length D.next.length)/\w.heap.size<=g/\BlkF w' g 4 D.next.length (fun i=>.bool (lvB D i))/\Below w.heap.size w w':=by
 have HAT:=zd h;obtain⟨vn,vt,rfl,hrn,hrt⟩:=h;obtain⟨W1,hbx,hsz,hb1,hx1⟩:=xzds D.of D.n vn vt w;have hd1:=DfB.of hx1;obtain⟨c256,c257,c258⟩:=hd1.cells;obtain⟨An,cn,rfl,hcn,_⟩:=hrn;obtain⟨At,ct,rfl,hct,hgt⟩:=hrt.step hb1;have HB:=zd (And.intro hb1 hd1);have HGT:=zd hgt;have HM:=zd hm;have hfew:=hm.few;have htl:=hm.tags;obtain⟨dc,hdc⟩:∃ dc,dfC D.of D.n (.slice An D.next.length cn) (.slice At D.tag.length ct)=dc:=⟨_,rfl⟩;rw [hdc]at hbx HAT
 have hds:dc.size=259:=by rw [<-hdc];exact xzak _ _ _ _
 rw [hdc];have HDC:=zd hdc;clear hrt hb1 hx1 hd1 hdc hgt hm
 go_enter Tryz.func50,Tryz.ntmps50
 go_wp2;have HC:=zd (And.intro c257 hsz);clear hbx hds c256 c257 c258 hsz
 go_loopw [3,4,5,12] (fun v _ _ i wr=>∃ k:Nat,i=.int .i64 k/\k<=D.tag.length/\Hid (Below W1.heap.size W1 wr/\RowI W1.heap.size wr v (tagdL D k)/\(tagdL D k=[]->v=.slice none 0 0))) (fun _ _ _ i _=>D.tag.length - (intOf i).toNat)
 case atStart=>exact⟨0,rfl,Nat.zero_le _,zd ⟨Below.refl _ _,RowI.nil _ _,fun _=>rfl⟩⟩
 case round=>
  obtain⟨k,rfl,hk,HH⟩:=hrel;obtain⟨w1,rfl⟩:∃ w1,w1=wr:=⟨_,rfl⟩
  by_cases hp:k<D.tag.length
  ·have hk1:IntKind.i64.wrap ((k:Int)+1)=((k+1:Nat):Int):=by rw [IntKind.wrap_i64];omega
   have hdl:decide ((k:Int)<(D.tag.length:Int))=true:=by simp;omega
   obtain⟨b,o,rfl,hlt,hgc⟩:=HGT.out (by intro e;rw [e]at hp;simp at hp);have hcell:=(HH.out.1.cell (p:=⟨b,o+k,none⟩) hlt).trans (hgc k hp);have hts:=xzzl D k
   have hgd:D.tag.getD k (-1)=D.tag[k]:=by rw [List.getD_eq_getElem?_getD,List.getElem?_eq_getElem hp];rfl
   rw [hgd]at hts;clear hgc hgd;generalize D.tag[k]=t at*
   by_cases h1:t= -1
   ·subst h1
    have HN:=zd (show Below W1.heap.size W1 w1/\RowI W1.heap.size w1 u3 (tagdL D (k+1))/\(tagdL D (k+1)=[]->u3=.slice none 0 0)by
     rw [hts,if_neg (by simp)];exact HH.out)
    clear hts;go_wp2;exact⟨⟨k+1,rfl,hp,HN⟩,by simp [intOf];omega⟩
   ·have e1:(t != -1)=true:=by rw [bne_iff_ne];exact h1
    have e1b:decide (t= -1)=false:=by simp [h1]
    have hl:=xzck _ _ (xzlo D k);obtain⟨v',W',hrun,hrow,hb'⟩:=HH.out.2.1.push (HH.out.1.size) (k:Int) (by omega)
    have HN:=zd (show Below W1.heap.size W1 W'/\RowI W1.heap.size W' v' (tagdL D (k+1))/\(tagdL D (k+1)=[]->v'=.slice none 0 0)by
     rw [hts,if_pos h1];exact⟨HH.out.1.trans hb',hrow,fun e=>by simp at e⟩)
    clear hts hrow hb' h1
    go_wp2_with(refine xzan rfl _ _ 26 26 rfl rfl rfl hrun ?_)
    exact⟨⟨k+1,rfl,hp,HN⟩,by simp [intOf];omega⟩
  ·have hdl:decide ((k:Int)<(D.tag.length:Int))=false:=by simp;omega
   obtain rfl:k=D.tag.length:=by omega
   have c257:=(HH.out.1.cell (p:=⟨w.heap.size,257,none⟩) (by show w.heap.size<_;have:=HC.out.2;omega)).trans HC.out.1;obtain⟨W2,hW2⟩:∃ W2,w1.alloc (.cells (cellsN D.next.length fun _=>.bool false) 4)=W2:=⟨_,rfl⟩;have hmk:=xzko D.next.length (by omega) w1;rw [hW2]at hmk
   have hb2:Below w1.heap.size w1 W2:=by rw [<-hW2];exact(Below.refl _ _).alloc (Nat.le_refl _) _
   have hs2:W2.heap.size=w1.heap.size+1:=by rw [<-hW2];simp
   have hg2:BlkF W2 w1.heap.size 4 D.next.length (seenF []):=by rw [<-hW2,<-xzsm];exact BlkIs.new w1 _ _
   have hb12:Below W1.heap.size W1 W2:=HH.out.1.trans (hb2.mono HH.out.1.size);have hb02:Below w.heap.size w W2:=HB.out.1.trans (hb12.mono HB.out.1.size);have HD2:=zd (HB.out.2.step hb12);have HBK:=zd (yzhy D _ W2 (HAT.out.step hb02) HM.out.few (fun r hr=>⟨HM.out.short r hr,(HM.out.rows r hr).2⟩))
   have HT:=zd (show RowI W1.heap.size W2 u3 (tagdL D D.next.length)/\(tagdL D D.next.length=[]->u3=.slice none 0 0)by
    rw [<-htl];exact⟨HH.out.2.1.step hb2,HH.out.2.2⟩)
   have HX:=zd (And.intro hb02 (And.intro hg2 hs2))
   have hg0:w.heap.size<=w1.heap.size:=by have:=HH.out.1.size;have:=HB.out.1.size;omega
   have hg1:W1.heap.size<=w1.heap.size:=HH.out.1.size;clear HH hb2 hs2 hg2 hb12 hb02 hW2
   go_wp2_with(first
    |((with_reducible refine xzbc (.tmp 1) ?_ ?_ HD2.out ?_ ?_);exact rfl;exact rfl;kernel_rfl;rw [HDC.out])
    |(go_at_call 81;refine HBK.out.mono ?_;rintro e w3 ⟨L,vb,rfl,hrb,hLe,hb3⟩;have HB3:=zd (And.intro hrb (And.intro hLe hb3));clear hrb hLe hb3)
    |(go_at_call 52
      have hlf:=xzlp HB3.out.2.1
      have hlen:((List.range D.next.length).map L).length=D.next.length:=by simp
      refine(xzsn ((List.range D.next.length).map L) (tagdL D D.next.length) vb u3 w3 HB3.out.1 ((HT.out.1.step HB3.out.2.2).ints) HT.out.2 hlf.1 (by rw [hlen];exact xzlo D _) (by rw [hlen];omega)).mono ?_;rintro e w4 ⟨vq,rfl,hrq,hb4⟩;obtain⟨Q,hQ⟩:∃ Q,foundL ((List.range D.next.length).map L) (tagdL D D.next.length)=Q:=⟨_,rfl⟩;rw [hQ]at hrq hlf;have HLF:=zd hlf.2
      have hqin:InR D.next.length Q:=by rw [<-hQ];have:=xzlk hlf.1 (fr:=tagdL D D.next.length) (by rw [hlen];exact xzlo D _);rwa [hlen]at this
      have hs3:=HB3.out.2.2.size;have hs2:=HX.out.2.2
      have HFQ:=zd (show FQ w w1.heap.size D.next.length Q [] vq w4 from
       ⟨(HX.out.1.trans (HB3.out.2.2.mono (by omega))).trans (hb4.mono (by omega)),(hb4.block w1.heap.size (by omega)).trans ((HB3.out.2.2.block w1.heap.size (by omega)).trans HX.out.2.1),hrq.low (by omega),fun e=>by have:=(World.ownsRow.lt hrq _ e).1;omega,hg0⟩)
      obtain⟨Aq,cq,rfl,hcq⟩:=xzbi hrq;have HQI:=zd hqin;have hql:=xzck _ _ hqin
      clear hlf hlen hrq hb4 hQ hqin hs3 hs2))
   clear hmk c257;obtain⟨g,hg⟩:∃ g,g=w1.heap.size:=⟨_,rfl⟩;rw [<-hg]at HFQ hg0;rw [<-hg];clear hg HX HT HD2 HB3
   go_loopw [8,33] (fun _ i wr=>∃ k:Nat,i=.int .i64 k/\k<=Q.length/\Hid (FQ w g D.next.length Q (Q.take k) (.slice Aq Q.length cq) wr)) (fun _ i _=>Q.length - (intOf i).toNat)
   case atStart=>exact⟨0,rfl,Nat.zero_le _,HFQ⟩
   case round=>
    obtain⟨k,rfl,hk,HH⟩:=hrel;obtain⟨w5,rfl⟩:∃ w5,w5=wr:=⟨_,rfl⟩
    by_cases hp:k<Q.length
    ·have hk1:IntKind.i64.wrap ((k:Int)+1)=((k+1:Nat):Int):=by rw [IntKind.wrap_i64];omega
     have hdl:decide ((k:Int)<(Q.length:Int))=true:=by simp;omega
     obtain⟨A',c',e',_,hs⟩:=HH.out.row.ints;obtain⟨b,o,e2,hlt,hgc⟩:=hs (by intro e;subst e;simp at hp)
     injection e' with e'
     rw [e2]at e';subst e';have hcell:=hgc k hp;obtain⟨x,hx⟩:∃ x:Nat,Q[k]=(x:Nat):=⟨Q[k].toNat,by have:=(HQI.out.2 _ (List.getElem_mem hp)).1;omega⟩
     have hxn:x<D.next.length:=by have:=(HQI.out.2 _ (List.getElem_mem hp)).2;omega
     have i1:decide ((x:Int)<(D.next.length:Int))=true:=by simp;omega
     have hc2:=BlkF.cell HH.out.blk hxn;have hfz:=BlkIs.frozen HH.out.blk x
     have HN:=zd (show FQ w g D.next.length Q (Q.take (k+1)) (.slice (some ⟨b,o,none⟩) Q.length cq) (w5.setCell ⟨g,x,none⟩ (.bool true))by
      rw [List.take_succ_eq_append_getElem hp,hx];exact HH.out.mark x)
     rw [hx]at hcell;clear hgc hs hx;go_wp2;exact⟨⟨k+1,rfl,hp,HN⟩,by simp [intOf];omega⟩
    ·have hdl:decide ((k:Int)<(Q.length:Int))=false:=by simp;omega
     obtain rfl:k=Q.length:=by omega
     have HF:=zd (show BlkF w5 g 4 D.next.length (fun i=>.bool (lvB D i))by
      have h1:=HH.out.blk;rw [List.take_length]at h1;unfold BlkF at h1 ⊢
      have e:cellsN D.next.length (seenF Q)=cellsN D.next.length (fun i=>.bool (lvB D i)):=xzao fun i hi=>by
       unfold seenF
       congr 1
       rw [Bool.eq_iff_iff,decide_eq_true_eq,lvB_iff];exact HLF.out i hi
      rw [<-e];exact h1)
     go_wp2;go_ret;exact⟨g,rfl,hg0,HF.out,HH.out.below⟩
end
section
open Go.RowKit
structure TrD where
 R:List (List Int)
 hn:List Value
 T:List Int
structure TrV where
 vn:Value
 vt:Value
structure TrX (h:Nat->Prop)(w0:World)(g:Nat)(f:Nat->Nat)(n:Int)(ρ:Nat->Nat)(S:TrD)(V:TrV)(W:World):Prop where
 below:Below w0.heap.size w0 W
 lo:w0.heap.size<=g
 blk: ¬ h 1->BlkIs W g 38 (dfC f n V.vn V.vt)
 t: ¬ h 3->RowI w0.heap.size W V.vt S.T
 n: ¬ h 4->W.ownsRow w0.heap.size 26 1 V.vn S.R.length S.hn
 rn:Rows0 ρ W S.R S.hn
 r0:ρ g=1
 old:∀ k,k<w0.heap.size->ρ k=9
 ro:(∀ k,V.vt.ownBlock=some k->ρ k=3)/\(∀ k,V.vn.ownBlock=some k->ρ k=4)
abbrev TrS:=TrX fun _=>False
section
variable {h h' : Nat → Prop} {w0 : World} {g : Nat} {f : Nat → Nat} {n : Int} {ρ : Nat → Nat} {S : TrD} {V : TrV} {W W' : World}
theorem TrX.size (H:TrX h w0 g f n ρ S V W):w0.heap.size<=W.heap.size:=H.below.size
theorem TrX.tn (H:TrX h w0 g f n ρ S V W)(hh:∀ q,h q->h' q)(h0: ¬ h' 0){o:Option Nat}(ht:Tn o W W')(ho:∀ k,o=some k->w0.heap.size<=k/\(h' (ρ k)\/W.heap.size<=k)):TrX h' w0 g f n ρ S V W':=by
 have hB:=H.size
 have key:∀ k q,k<W.heap.size->ρ k=q-> ¬ h' q->W'.heap[k]? =W.heap[k]? :=fun k q hk hq hr=>ht.2.1 k hk (fun e=>by
  rcases(ho k e).2 with h1|h1
  ·rw [hq]at h1;exact hr h1
  ·omega)
 have up:∀ q,¬ h' q-> ¬ h q:=fun q h1 h2=>h1 (hh q h2)
 refine⟨ht.2.2 _ _ hB (fun k hk=>(ho k hk).1) H.below,H.lo,fun hr=>?_,fun hr=>?_,fun hr=>?_,?_,H.r0,H.old,H.ro⟩
 ·exact(key _ _ (BlkIs.lt (H.blk (up _ hr))) H.r0 hr).trans (H.blk (up _ hr))
 ·exact xzbh (H.t (up _ hr)) fun k hk=>key k _ (World.ownsRow.lt (H.t (up _ hr)) k hk).2 (H.ro.1 k hk) hr
 ·exact xzaz (H.n (up _ hr)) fun k hk=>key k _ (World.ownsRow.lt (H.n (up _ hr)) k hk).2 (H.ro.2 k hk) hr
 ·exact H.rn.keep ht.1 fun b hb hb0=>key b 0 hb hb0 h0
theorem TrX.step (H:TrS w0 g f n ρ S V W)(hb:Below W.heap.size W W'):TrS w0 g f n ρ S V W':=TrX.tn (o:=none) H (fun _ h=>h) (fun h=>h) (Tn.below hb) (fun k e=>by cases e)
theorem TrX.role (H:TrS w0 g f n ρ S V W)(o:Option Nat)(q:Nat)(ho:∀ k,o=some k->ρ k=q\/W.heap.size<=k):TrS w0 g f n (fun k=>if o=some k then q else ρ k) S V W:=by
 have key:∀ k q',k<W.heap.size->ρ k=q'->(if o=some k then q else ρ k)=q':=fun k q' hk hq'=>by
  by_cases e:o=some k
  ·rw [if_pos e]
   rcases ho k e with h1|h1
   ·exact h1.symm.trans hq'
   ·omega
  ·rw [if_neg e];exact hq'
 have F: ¬ False:=fun h=>h
 exact⟨H.below,H.lo,H.blk,H.t,H.n,H.rn.role fun b hb h0=>key b 0 hb h0,key _ _ (BlkIs.lt (H.blk F)) H.r0,fun k hk=>key _ _ (Nat.lt_of_lt_of_le hk H.size) (H.old k hk),
  ⟨fun k hk=>key _ _ (World.ownsRow.lt (H.t F) k hk).2 (H.ro.1 k hk),fun k hk=>key _ _ (World.ownsRow.lt (H.n F) k hk).2 (H.ro.2 k hk)⟩⟩
theorem TrX.pushT (H:TrS w0 g f n ρ S V W){v':Value}{x:Int}(ht:Tn V.vt.ownBlock W W')(hv:RowI w0.heap.size W' v' (S.T++[x]))(hb:v'.ownBlock=V.vt.ownBlock\/ ∃ b,v'.ownBlock=some b/\W.heap.size<=b):
 (∃ ρ',TrS w0 g f n ρ' {S with T:=S.T++[x]} {V with vt:=v'} (W'.setCell ⟨g,258,none⟩ v'))/\(∃ y,W'.cell? ⟨g,258,none⟩=some y)/\W'.frozen? ⟨g,258,none⟩=false:=by
 have F: ¬ False:=fun h=>h
 have r5:=H.role v'.ownBlock 3 (fun k hk=>by
  rcases hb with e|⟨b,e1,e2⟩
  ·exact .inl (H.ro.1 k (e▸hk))
  ·rw [e1]at hk;injection hk with hk;exact .inr (by omega))
 have t5:=r5.tn (h':=fun k=>k=3) (fun _ h=>h.elim) (by decide) ht (fun k hk=>⟨(World.ownsRow.lt (r5.t F) k hk).1,.inl (r5.ro.1 k hk)⟩);have bk:=t5.blk (by decide)
 have t6:=t5.tn (h':=fun k=>k=3\/k=1) (fun _ h=>.inl h) (by decide) (Tn.wrote (Wrote.cell W' g 258 v')) (fun k hk=>by
  obtain rfl:g=k:=Option.some.inj hk
  exact⟨H.lo,.inl (.inr t5.r0)⟩)
 refine⟨⟨_,t6.below,t6.lo,fun _=>blk_dt bk v',fun _=>?_,fun _=>t6.n (by decide),t6.rn,t6.r0,t6.old,⟨fun k hk=>if_pos hk,t6.ro.2⟩⟩,⟨_,(DfB.of bk) 258 (by decide)⟩,BlkIs.frozen bk 258⟩
 exact xzbh hv fun k hk=>Below.heap_setCell W' ⟨g,258,none⟩ v' k (fun e=>by
  have h1:(if v'.ownBlock=some k then 3 else ρ k)=3:=if_pos hk;have h2:=t5.r0;rw [show k=g from e]at h1
  rw [h1]at h2;cases h2)
theorem TrX.pushN (H:TrS w0 g f n ρ S V W){v':Value}{r:List Int}{b:Nat}{vr:Value}(ht:Tn V.vn.ownBlock W W')(hv:W'.ownsRow w0.heap.size 26 1 v' (S.R.length+1) (S.hn++[vr]))(hb:v'.ownBlock=V.vn.ownBlock\/ ∃ b,v'.ownBlock=some b/\W.heap.size<=b)
 (h1:vr.oneCell'=true)(h2:IntsV W' r vr)(h3:vr.ownBlock=some b)(h4:W.heap.size<=b)(h5:b<W'.heap.size)(h6:v'.ownBlock≠some b):
 (∃ ρ',TrS w0 g f n ρ' {S with R:=S.R++[r],hn:=S.hn++[vr]} {V with vn:=v'} (W'.setCell ⟨g,257,none⟩ v'))/\(∃ y,W'.cell? ⟨g,257,none⟩=some y)/\W'.frozen? ⟨g,257,none⟩=false:=by
 have F: ¬ False:=fun h=>h
 have r4:=H.role (some b) 0 (fun k hk=>.inr (by injection hk with hk;omega))
 have r5:=r4.role v'.ownBlock 4 (fun k hk=>by
  rcases hb with e|⟨b',e1,e2⟩
  ·exact .inl (r4.ro.2 k (e▸hk))
  ·rw [e1]at hk;injection hk with hk;exact .inr (by omega))
 have t5:=r5.tn (h':=fun k=>k=4) (fun _ h=>h.elim) (by decide) ht (fun k hk=>⟨(World.ownsRow.lt (r5.n F) k hk).1,.inl (r5.ro.2 k hk)⟩);have bk:=t5.blk (by decide);have gb:g<W.heap.size:=BlkIs.lt (H.blk F)
 have rb:∀ b',vr.ownBlock=some b'->(if v'.ownBlock=some b' then 4 else if some b=some b' then 0 else ρ b')=0/\b'<W'.heap.size:=fun b' hb'=>by
  obtain rfl:b=b':=by rw [h3]at hb';injection hb'
  rw [if_neg h6,if_pos rfl];exact⟨rfl,h5⟩
 have rn:=t5.rn.push h1 h2 (fun b' hb' _=>rb b' hb');have t5':TrX (fun k=>k=4) w0 g f n _ ⟨S.R++[r],S.hn++[vr],S.T⟩ ⟨V.vn,V.vt⟩ W':=⟨t5.below,t5.lo,t5.blk,t5.t,fun h=>absurd rfl h,rn,t5.r0,t5.old,t5.ro⟩
 have t6:=t5'.tn (h':=fun k=>k=4\/k=1) (fun _ h=>.inl h) (by decide) (Tn.wrote (Wrote.cell W' g 257 v')) (fun k hk=>by
  obtain rfl:g=k:=Option.some.inj hk
  exact⟨H.lo,.inl (.inr t5.r0)⟩)
 refine⟨⟨_,t6.below,t6.lo,fun _=>blk_dx bk v',fun _=>t6.t (by decide),fun _=>?_,t6.rn,t6.r0,t6.old,⟨t6.ro.1,fun k hk=>if_pos hk⟩⟩,⟨_,(DfB.of bk) 257 (by decide)⟩,BlkIs.frozen bk 257⟩
 show(W'.setCell ⟨g,257,none⟩ v').ownsRow w0.heap.size 26 1 v' (S.R++[r]).length (S.hn++[vr])
 rw [List.length_append]
 exact xzaz hv fun k hk=>Below.heap_setCell W' ⟨g,257,none⟩ v' k (fun e=>by
  have h1:(if v'.ownBlock=some k then 4 else if some b=some k then 0 else ρ k)=4:=if_pos hk;have h2:=t5.r0;rw [show k=g from e]at h1
  rw [h1]at h2;cases h2)
theorem TrX.at (H:TrS w0 g f n ρ S V W):DfAt W ⟨f,n,S.R,S.T⟩ (.agg (dfC f n V.vn V.vt)):=
 ⟨V.vn,V.vt,rfl,xzzd (H.n fun h=>h) H.rn,(H.t fun h=>h).ints⟩
theorem TrX.wrote (H:TrS w0 g f n ρ S V W)(hz:W.heap.size<=W'.heap.size)(hb:∀ b,w0.heap.size<=b->W'.heap[b]? =W.heap[b]?):DfAt W' ⟨f,n,S.R,S.T⟩ (.agg (dfC f n V.vn V.vt)):=by
 have F: ¬ False:=fun h=>h
 refine⟨V.vn,V.vt,rfl,xzzd (xzaz (H.n F) fun b hb'=>hb b (World.ownsRow.lt (H.n F) b hb').1) (H.rn.keep hz fun b _ hb0=>hb b ?_),RowI.ints (xzbh (H.t F) fun b hb'=>hb b (World.ownsRow.lt (H.t F) b hb').1)⟩
 rcases Nat.lt_or_ge b w0.heap.size with h1|h1
 ·have:=H.old b h1;omega
 ·exact h1
end
def numF (K:List Int)(i:Nat):Value:=.int .i64 (numL K i)
theorem yzdo {W:World}{g:Nat}{t:TypeId}{n:Nat}(h:BlkF W g t n (noneF n)):BlkF W g t n (numF []):=by
 have e:cellsN n (noneF n)=cellsN n (numF []):=xzao fun i hi=>by
  unfold noneF numF numL;rw [if_pos hi,if_neg (by simp)]
 unfold BlkF at h ⊢;rw [<-e];exact h
theorem yzia {K:List Int}{x:Nat}(hx:(x:Int)∉K):putV (numF K) x (.int .i64 (K.length:Nat))=numF (K++[(x:Int)]):=by
 funext i;unfold putV numF numL
 by_cases h:i=x
 ·subst h
  rw [if_pos rfl,if_pos (by simp),List.idxOf_append,if_neg hx];simp
 ·rw [if_neg h]
  have e:(i:Int)∈K++[(x:Int)]↔(i:Int)∈K:=by
   rw [List.mem_append,List.mem_singleton]
   constructor
   ·rintro(h1|h1)
    ·exact h1
    ·omega
   ·exact .inl
  by_cases hm:(i:Int)∈K
  ·rw [if_pos hm,if_pos (e.2 hm),List.idxOf_append,if_pos hm]
  ·rw [if_neg hm,if_neg fun h2=>hm (e.1 h2)]
theorem yzdp {W:World}{g n:Nat}{K:List Int}(h:BlkF W g 3 n (numF K))(hn:n<=1048576):IntsV W ((List.range n).map fun(i:Nat)=>numL K (i:Int)) (.slice (some ⟨g,0,none⟩) n n):=by
 have hl:((List.range n).map fun(i:Nat)=>numL K (i:Int)).length=n:=by simp
 refine⟨_,n,by rw [hl],by omega,fun _=>⟨g,0,rfl,BlkIs.lt h,fun i hi=>?_⟩⟩;rw [hl]at hi;rw [Nat.zero_add,BlkF.cell h hi,List.getElem_map,List.getElem_range];rfl
theorem ren_num {n:Nat}{K r:List Int}(hr:∀ x∈r, -1<=x/\x<(n:Int))(hK:∀ x∈K,0<=x):r.map (renI ((List.range n).map fun(i:Nat)=>numL K (i:Int)))=r.map (numL K):=by
 apply List.map_congr_left
 intro x hx;have h:=hr x hx;unfold renI
 by_cases e:x= -1
 ·rw [if_pos e,xzje fun hm=>by have:=hK x hm;omega]
 ·rw [if_neg e,List.getD_eq_getElem?_getD,List.getElem?_map,List.getElem?_range (by omega)]
  show numL K ((x.toNat:Nat):Int)=_
  rw [Int.toNat_of_nonneg (by omega)]
theorem yzdq {W:World}{g n:Nat}{l:List Int}(h:BlkF W g 3 n (intF l))(hl:l.length=n)(hn:n<=1048576):IntsV W l (.slice (some ⟨g,0,none⟩) n n):=by
 subst hl;refine⟨_,_,rfl,by omega,fun _=>⟨g,0,rfl,BlkIs.lt h,fun i hi=>?_⟩⟩;rw [Nat.zero_add,BlkF.cell h hi];unfold intF;rw [List.getD_eq_getElem?_getD,List.getElem?_eq_getElem hi];rfl
theorem yzdr (f:Nat->Nat)(n:Int):Tryz.prog.built 38 [(0,.agg (clsC f n))]=some (dfC f n (.slice none 0 0) (.slice none 0 0)):=by kernel_rfl
end
end Go.Proofs.YtgbljnnmhmlifaaGreatDoor
