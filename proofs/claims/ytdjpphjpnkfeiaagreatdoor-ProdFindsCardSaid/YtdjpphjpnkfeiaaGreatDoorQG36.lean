/-
 WHAT (*prod.walk).first ANSWERS: the first step to states that are as is asked: a contract. Conditions: a walker lies there that has found where the empty text comes to; what is asked is answered, and turns no more than one block that is not the walker's.
-/
import Derived.Test.YtdjpphjpnkfeiaaGreatDoorQG35
import Derived.Test.YtdjpphjpnkfeiaaGreatDoorQG07
import Derived.Test.YtdjpphjpnkfeiaaGreatDoorQG03
namespace Go.Proofs.YtdjpphjpnkfeiaaGreatDoor
section
open Go.RowKit
attribute [local irreducible] FreeW textFrame
structure OkD (D:Df):Prop where
 wf:WfN D.next
 row:∀ b,b<256->∀ r∈D.next,D.of b<r.length
 cls:∀ b,b<256->D.of b<256
 few:D.next.length<=600
 tags:D.tag.length=D.next.length
theorem MayD.okD {D:Df}(h:MayD D)(hf:∀ b,b<256->D.of b<256):OkD D:=
 ⟨h.wf,fun b hb r hr=>by have h1:=h.cl b hb;have h2:=(h.rows r hr).1;omega,hf,h.few,h.tags⟩
theorem OkD.bare {D:Df}(h:OkD D):OkD D.bare:=⟨xzww D,fun b hb r hr=>(by cases hr),h.cls,by show 0<=600;decide,rfl⟩
structure FrA (n:Nat)(o:Option Nat)(W W':World):Prop where
 size:W.heap.size<=W'.heap.size
 blk:∀ k,k<n->o≠some k->W'.heap[k]? =W.heap[k]?
 below:∀ B W0,B<=n->(∀ k,o=some k->B<=k)->Below B W0 W->Below B W0 W'
theorem FrA.refl (n:Nat)(o:Option Nat)(W:World):FrA n o W W:=⟨Nat.le_refl _,fun _ _ _=>rfl,fun _ _ _ _ h=>h⟩
theorem FrA.trans {n:Nat}{o:Option Nat}{W W' W'':World}(h:FrA n o W W')(h':FrA n o W' W''):FrA n o W W'':=
 ⟨Nat.le_trans h.size h'.size,fun k hk ho=>(h'.blk k hk ho).trans (h.blk k hk ho),fun B W0 hB ho hb=>h'.below B W0 hB ho (h.below B W0 hB ho hb)⟩
theorem FrA.keep {n:Nat}(o:Option Nat){W W':World}(h:KeepW n W W'):FrA n o W W':=
 ⟨h.size,fun k hk _=>(h.below n W (Nat.le_refl _) (Below.refl _ _)).block k hk,fun B W0 hB _ hb=>h.below B W0 hB hb⟩
theorem FrA.tn {n:Nat}{o:Option Nat}{W W':World}(h:Tn o W W')(hn:n<=W.heap.size):FrA n o W W':=
 ⟨h.1,fun k hk ho=>h.2.1 k (by omega) ho,fun B W0 hB ho hb=>h.2.2 B W0 (by omega) ho hb⟩
structure AskF (A B:Df)(w0:World)(n:Nat)(gf:Nat)(lb:Array Value)(pr:SS->Bool)(K:World->Prop)(Kt:SS->World->Prop)(o:Option Nat):Prop where
 enter:∀ args w,(callFunc gf args).run Tryz.prog w=.ok (.enter gf args) w
 place:∀ k,o=some k->w0.heap.size<=k/\k<n
 call:∀ (s:SS) (u:World),A.InS s.1->B.InS s.2->Below w0.heap.size w0 u->K u->Calls Tryz.prog gf (#[.agg #[.int .i16 s.1,.int .i16 s.2]]++lb) u fun e u'=>e=.returned (.bool (pr s))/\Tn o u u'/\(pr s=false->K u')/\(pr s=true->Kt s u')
 keep:∀ u u',Below n u u'->K u->K u'
abbrev AskIs (p:WP)(gf:Nat)(lb:Array Value)(pr:SS->Bool)(K:World->Prop)(Kt:SS->World->Prop)(o:Option Nat):Prop:=AskF p.A p.B p.w0 p.n1 gf lb pr K Kt o
theorem AskF.up {A B:Df}{w0:World}{n n':Nat}{gf:Nat}{lb:Array Value}{pr:SS->Bool}{K:World->Prop}{Kt:SS->World->Prop}{o:Option Nat}(h:AskF A B w0 n gf lb pr K Kt o)(hn:n<=n'):AskF A B w0 n' gf lb pr K Kt o:=
 ⟨h.enter,fun k e=>⟨(h.place k e).1,by have:=(h.place k e).2;omega⟩,h.call,fun u u' hb hk=>h.keep u u' (hb.mono hn) hk⟩
section
variable {p : WP} {S : SS → Bool} {m : Nat} {Z : List Zt} {vb vf : Value} {W : World}
theorem WkX.loadA (h:WkX p S m Z vb vf W):(Instr.loadAt 35 (.pointer (some ⟨p.g,0,none⟩))).run Tryz.prog W=.ok (.agg (dfC p.A.of p.A.n p.a1 p.a2)) W:=
 loadDf (fun k hk=>by
  rw [h.blk.cell (by omega)];unfold wkF;rw [if_pos hk])
theorem WkX.loadB (h:WkX p S m Z vb vf W):(Instr.loadAt 35 (.pointer (some ⟨p.g,259,none⟩))).run Tryz.prog W=.ok (.agg (dfC p.B.of p.B.n p.b1 p.b2)) W:=by
 have:=run_loadAt_mid (P:=Tryz.prog) W p.g 259 35 (dfC p.B.of p.B.n p.b1 p.b2).toList _ (fun j v hv=>by
  have hj:j<259:=by have:=(List.getElem?_eq_some_iff.1 hv).1;rw [Array.length_toList,xzac]at this;exact this
  rw [h.blk.cell (i:=259+j) (by omega)];rw [Array.getElem?_toList,xzef _ _ _ _ hj]at hv;unfold wkF;rw [if_neg (by omega),if_pos (by omega),show 259+j - 259=j by omega]
  exact hv) Tryz.underlying35 rfl (by rw [infoD,Array.length_toList,xzac])
 rw [this]
theorem WkX.stepAt (h:WkX p S m Z vb vf W){i:Nat}(hi:i<Z.length):∃ b c,vf=.slice (some ⟨b,0,none⟩) Z.length c/\(Z.length<=c/\c<=9223372036854775807)/\∀ k x,(Z[i]).vals[k]? =some x->W.cell? ⟨b,i*4+k,none⟩=some x:=by
 rcases h.fnd.2 with⟨rfl,h0⟩|⟨g,cap,cur,rfl,h1,h2,h3,h4,h5⟩
 ·omega
 ·refine⟨g,cap,rfl,⟨h3,by unfold maxLen at h4;omega⟩,fun k x hx=>?_⟩
  have:=World.ownsRow.cells (g:=g) h.fnd rfl (i*4+k) _ (xzmt Z i hi k x hx);rw [Addr.add_lit,Nat.zero_add]at this;exact this
theorem WkX.form (h:WkX p S m Z vb vf W):∃ A c,vf=.slice A Z.length c:=by
 rcases h.fnd.2 with⟨rfl,h0⟩|⟨g,cap,cur,rfl,h1⟩
 ·exact⟨none,0,by rw [h0]⟩
 ·exact⟨_,_,rfl⟩
theorem WkX.byteAt (h:WkX p S m Z vb vf W){i:Nat}(hi:i<(lbs p.A p.B).length):∃ b c,p.vy=.slice (some ⟨b,0,none⟩) (lbs p.A p.B).length c/\W.cell? ⟨b,i,none⟩=some (.int .u8 ((lbs p.A p.B)[i]:Nat)):=by
 rcases h.byt.2 with⟨e,h0⟩|⟨g,cap,cur,e,h1,h2,h3⟩
 ·omega
 ·refine⟨g,cap,e,?_⟩
  have:=World.ownsRow.cells (g:=g) h.byt (by rw [e];rfl) i (.int .u8 ((lbs p.A p.B)[i]:Nat)) (by unfold bytesV;rw [List.getElem?_map,List.getElem?_eq_getElem hi];rfl)
  rwa [Addr.add_lit,Nat.zero_add]at this
theorem WkX.vyForm (h:WkX p S m Z vb vf W):∃ A c,p.vy=.slice A (lbs p.A p.B).length c:=BytR.form h.byt
end
def FirstIs (p:WP)(pr:SS->Bool)(K:World->Prop)(Kt:SS->World->Prop)(o:Option Nat)(w:World):Ending->World->Prop:=fun e w'=>∃ Z vf at',e=.returned (.int .i64 at')/\Wk p Z vf w'/\ParZ Z/\Z.length<=boundS p.A p.B/\FrA p.n1 o w w'/\
 ((∃ (k:Nat) (h:k<Z.length),at'=(k:Int)/\tellQ pr (allF p.A p.B)=some ((Z[k]).s,(Z[k]).tx)/\Kt (Z[k]).s w')\/(at'= -1/\tellQ pr (allF p.A p.B)=none/\foundZ Z=allF p.A p.B/\K w'))
theorem xzbx {Z:List Zt}{i:Nat}(h:i<Z.length):(foundZ Z)[i]'(by rw [xzbk];exact h)=((Z[i]).s,(Z[i]).tx):=by
 unfold foundZ;rw [List.getElem_map]
theorem yzbt {p:SS->Bool}{F G:List (SS×List Nat)}(h:F<+:G){x:SS×List Nat}(hx:tellQ p F=some x):tellQ p G=some x:=by
 obtain⟨c,rfl⟩:=h;unfold tellQ at hx ⊢;rw [List.find?_append,hx];rfl
theorem xzju (x:SS×List Nat)(bs:List Nat)(j:Nat)(F:List (SS×List Nat)){δ:SS->Nat->SS}:alongQ noS δ x (bs.take j) F<+:alongQ noS δ x bs F:=by
 have e:alongQ noS δ x bs F=alongQ noS δ x (bs.drop j) (alongQ noS δ x (bs.take j) F):=by
  unfold alongQ;rw [<-List.foldl_append,List.take_append_drop]
 rw [e];exact xzcf _ _ _
theorem xzjv {A B:Df}{k:Nat}{x:SS×List Nat}(h:(foundTo A B k)[k]? =some x):foundTo A B (k+1)=alongQ noS (dlt A B) x (lbs A B) (foundTo A B k):=xzbv h
theorem lbs_256 (A B:Df):∀ x∈lbs A B,x<256:=fun _ hx=>(leastQ_mem.1 hx).1
theorem lbs_len (A B:Df):(lbs A B).length<=256:=by
 unfold lbs leastQ;have:=List.length_filter_le (fun x=> !old (kindS A B) x) (List.range 256)
 rwa [List.length_range]at this
theorem xzkx {A B:Df}(hA:OkD A)(hB:OkD B):boundS A B<=361201:=by
 unfold boundS;have h1:=hA.few;have h2:=hB.few;exact Nat.le_trans (Nat.mul_le_mul (Nat.succ_le_succ h1) (Nat.succ_le_succ h2)) (by decide)
theorem inS_ks {D:Df}(h:OkD D){a:Int}(ha:D.InS a):ksIn a:=by
 unfold Df.InS at ha;have:=h.few;unfold ksIn;omega
set_option maxRecDepth 20000 in
set_option maxHeartbeats 16000000 in
theorem xzqs (p:WP)(Z0:List Zt)(vf0:Value)(w:World)(h0:Wk p Z0 vf0 w)(hZ0:foundZ Z0=startF p.A p.B)(hp0:ParZ Z0)(hA:OkD p.A)(hB:OkD p.B)(gf:Nat)(lb:Array Value)(pr:SS->Bool)(K:World->Prop)(Kt:SS->World->Prop)(o:Option Nat)
 (ask:AskIs p gf lb pr K Kt o)(hK:K w):
 Calls Tryz.prog 24 #[.pointer (some ⟨p.g,0,none⟩),.func (.func gf) #[] lb] w (FirstIs p pr K Kt o w):=by
 have H0:=zd (And.intro h0 (And.intro hZ0 (And.intro hp0 hK)));have HA:=zd (And.intro hA hB);have HBD:=zd (xzkx hA hB);have HASK:=zd ask;have heg:=ask.enter;have hll:=lbs_len p.A p.B;have HLL:=zd (And.intro hll (lbs_256 p.A p.B));have HFL:=zd (fun k=>xzcl hA.wf hB.wf k);clear h0 hZ0 hp0 hK hA hB ask hll
 go_enter Tryz.func24,Tryz.ntmps24
 go_wp2
 go_loopw [5] (fun i wr=>∃ k:Nat,i=.int .i64 k/\Hid (∃ Z vf,Wk p Z vf wr/\foundZ Z=foundTo p.A p.B k/\ParZ Z/\FrA p.n1 o w wr/\K wr/\k<=Z.length/\∀ (i:Nat) (h:i<Z.length),i<k->pr (Z[i]).s=false)/\k<=boundS p.A p.B) (fun i _=>boundS p.A p.B+1 - (intOf i).toNat)
 case atStart=>exact⟨0,rfl,zd ⟨Z0,vf0,H0.out.1,H0.out.2.1,H0.out.2.2.1,FrA.refl _ _ _,H0.out.2.2.2,Nat.zero_le _,fun i _ hi=>absurd hi (by omega)⟩,Nat.zero_le _⟩
 case round=>
  obtain⟨k,rfl,HH,hkb⟩:=hrel;obtain⟨wz,rfl⟩:∃ wz,wz=wr:=⟨_,rfl⟩;obtain⟨Z,vf,hwk,hfz,hpar,hfr,hkw,hkl,hno⟩:=HH.out
  have hzl:Z.length<=boundS p.A p.B:=by rw [<-xzbk,hfz];exact HFL.out k
  have hbd:=HBD.out;obtain⟨_,c519,_⟩:=hwk.cells;obtain⟨Af,cf,rfl⟩:=hwk.form
  by_cases hp:k<Z.length
  ·have hdl:decide ((k:Int)<(Z.length:Int))=true:=by simp;omega
   obtain⟨bf,cf',e1,_,hcl⟩:=hwk.stepAt hp
   injection e1 with e1 _ e2
   subst e1;subst e2;obtain⟨z,hz⟩:∃ z,Z[k]=z:=⟨_,rfl⟩;rw [hz]at hcl;have k0:=hcl 0 _ rfl;have k1:=hcl 1 _ rfl;obtain⟨s,hs⟩:∃ s,z.s=s:=⟨_,rfl⟩;rw [hs]at k0 k1;rw [Nat.add_zero]at k0;obtain⟨U,hU⟩:∃ U,wz.alloc (.cells #[.int .i16 s.1,.int .i16 s.2] 65)=U:=⟨_,rfl⟩
   have hbU:Below wz.heap.size wz U:=by rw [<-hU];exact(Below.refl _ _).alloc (Nat.le_refl _) _
   have hxU:BlkIs U wz.heap.size 65 #[.int .i16 s.1,.int .i16 s.2]:=by rw [<-hU];exact BlkIs.new _ _ _
   have q0:=hxU.cell 0;have q1:=hxU.cell 1;simp only [zq]at q0 q1
   have hin:p.A.InS s.1/\p.B.InS s.2:=by
    have h1:=(xzfc HA.out.1.wf HA.out.2.wf k).2 ((foundZ Z)[k]'(by rw [xzbk];exact hp)) (by rw [<-hfz];exact List.getElem_mem _);rw [xzbx hp,hz,hs]at h1;exact h1.2
   have HW:=zd (And.intro (hwk.step hbU) (And.intro hxU (And.intro (hfr.trans (FrA.keep o (KeepW.step hbU hwk.low.2.2.2))) (And.intro (HASK.out.keep _ _ ((Below.refl _ _).trans (hbU.mono hwk.low.2.2.2)) hkw) hin))));have HCALL:=zd (HASK.out.call s U hin.1 hin.2 HW.out.1.below HW.out.2.2.2.1);have HIN:=zd hin;have HZ2:=zd (show p.n1<=wz.heap.size from hwk.low.2.2.2);have HZ:=zd (And.intro hfz (And.intro hpar (And.intro hno (And.intro hz hs))));clear hcl hbU hxU hin hwk hfz hpar hfr hkw hno HH hz hs
   go_wp2_with fail
   refine HCALL.out.mono ?_;rintro e u1 ⟨rfl,htn,hfa,htr⟩
   have HT:=zd (show Wk p Z (.slice (some ⟨bf,0,none⟩) Z.length cf) u1/\FrA p.n1 o w u1/\BlkIs u1 wz.heap.size 65 #[.int .i16 s.1,.int .i16 s.2]from
    ⟨HW.out.1.asked htn HASK.out.place,HW.out.2.2.1.trans (FrA.tn htn HW.out.1.low.2.2.2),(htn.2.1 _ (BlkIs.lt HW.out.2.1) (fun e=>by have:=(HASK.out.place _ e).2;have:=HZ2.out;omega)).trans HW.out.2.1⟩)
   clear htn HCALL hU q0 q1 k0 k1
   cases hps:pr s with
   |true=>
    have HKT:=zd (htr hps)
    have HTE:=zd (show tellQ pr (allF p.A p.B)=some ((Z[k]).s,(Z[k]).tx)by
     refine yzbt (xzed HA.out.1.wf HA.out.2.wf k) ?_;rw [<-HZ.out.1];have:=xzmr (p:=pr) (F:=foundZ Z) (k:=k) (by rw [xzbk];exact hp) (by rw [xzbx hp,HZ.out.2.2.2.1,HZ.out.2.2.2.2];exact hps) (fun i hi=>by rw [xzbx (by omega)];exact HZ.out.2.2.1 i (by omega) hi)
     rw [this,xzbx hp])
    clear hfa htr hps;go_wp2;go_ret;exact⟨Z,_,(k:Int),rfl,HT.out.1,HZ.out.2.1,hzl,HT.out.2.1,.inl ⟨k,hp,rfl,HTE.out,by rw [HZ.out.2.2.2.1,HZ.out.2.2.2.2];exact HKT.out⟩⟩
   |false=>
    have HKF:=zd (hfa hps);obtain⟨c518,_,_⟩:=HT.out.1.cells;obtain⟨Ay,cy,ey⟩:=HT.out.1.vyForm;rw [ey]at c518;have HPS:=zd hps;obtain⟨tx,htx⟩:∃ tx,z.tx=tx:=⟨_,rfl⟩
    have HZK:=zd (show(foundTo p.A p.B k)[k]? =some (s,tx)by
     rw [<-HZ.out.1,List.getElem?_eq_getElem (by rw [xzbk];exact hp),xzbx hp,HZ.out.2.2.2.1,HZ.out.2.2.2.2,htx])
    have HNO:=zd (show ∀ (i:Nat) (h:i<(foundTo p.A p.B k).length),i<k+1->pr ((foundTo p.A p.B k)[i]).1=false from fun i h hi=>by
     have h':i<Z.length:=by rw [<-HZ.out.1,xzbk]at h;exact h
     have e:(foundTo p.A p.B k)[i]=((Z[i]).s,(Z[i]).tx):=by rw [<-xzbx h'];congr 1;exact HZ.out.1.symm
     rw [e]
     by_cases hik:i=k
     ·subst hik
      rw [HZ.out.2.2.2.1,HZ.out.2.2.2.2];exact HPS.out
     ·exact HZ.out.2.2.1 i h' (by omega))
    have HLY:=zd (And.intro ey (show k<boundS p.A p.B by omega));clear hfa htr hps htx ey;go_wp2;clear c518 c519
    go_loopw [35] (fun i wr=>∃ j:Nat,i=.int .i64 j/\j<=(lbs p.A p.B).length/\Hid (∃ Z' vf',Wk p Z' vf' wr/\foundZ Z'=alongQ noS (dlt p.A p.B) (s,tx) ((lbs p.A p.B).take j) (foundTo p.A p.B k)/\ParZ Z'/\FrA p.n1 o w wr/\K wr/\BlkIs wr wz.heap.size 65 #[.int .i16 s.1,.int .i16 s.2])) (fun i _=>(lbs p.A p.B).length - (intOf i).toNat)
    case atStart=>exact⟨0,rfl,Nat.zero_le _,zd ⟨Z,_,HT.out.1,HZ.out.1,HZ.out.2.1,HT.out.2.1,HKF.out,HT.out.2.2⟩⟩
    case round=>
     obtain⟨j,rfl,hj,HI⟩:=hrel;obtain⟨wy,rfl⟩:∃ wy,wy=wr:=⟨_,rfl⟩;obtain⟨Z',vf',hwk,hfz,hpar,hfr,hkw,hbs⟩:=HI.out
     by_cases hjl:j<(lbs p.A p.B).length
     ·have hjk:=HLL.out.1
      have hk1:IntKind.i64.wrap ((j:Int)+1)=((j+1:Nat):Int):=by rw [IntKind.wrap_i64];omega
      have hdl2:decide ((j:Int)<((lbs p.A p.B).length:Int))=true:=by simp;omega
      obtain⟨by0,cy0,ey0,hcy⟩:=hwk.byteAt hjl;rw [HLY.out.1]at ey0
      injection ey0 with ey1 _ ey2
      subst ey1;subst ey2;obtain⟨x,hx⟩:∃ x,(lbs p.A p.B)[j]=x:=⟨_,rfl⟩;rw [hx]at hcy;have hx256:x<256:=HLL.out.2 x (by rw [<-hx];exact List.getElem_mem hjl);obtain⟨bs,hbz⟩:∃ bs,wz.heap.size=bs:=⟨_,rfl⟩;rw [hbz]at hbs;rw [hbz];obtain⟨da,hda⟩:∃ dc,dfC p.A.of p.A.n p.a1 p.a2=dc:=⟨_,rfl⟩;obtain⟨db,hdb⟩:∃ dc,dfC p.B.of p.B.n p.b1 p.b2=dc:=⟨_,rfl⟩;have HLA:=zd (fun(u:World) (hu:Below wy.heap.size wy u)=>(hwk.step hu).loadA);have HLB:=zd (fun(u:World) (hu:Below wy.heap.size wy u)=>(hwk.step hu).loadB);have HSC:=zd (fun(u:World) (hu:Below wy.heap.size wy u)=>show u.cell? ⟨bs,0,none⟩=some (.int .i16 s.1)/\u.cell? ⟨bs,1,none⟩=some (.int .i16 s.2)from⟨(hbs.step hu).cell 0,(hbs.step hu).cell 1⟩);have HNA:=zd (fun(u:World) (hu:Below wy.heap.size wy u)=>xzfs p.A s.1 x _ u (hwk.ats.1.step (hwk.step hu).below) HA.out.1.cls HIN.out.1 hx256 (HA.out.1.row x hx256) HA.out.1.wf (by have:=HA.out.1.few;omega));have HNB:=zd (fun(u:World) (hu:Below wy.heap.size wy u)=>xzfs p.B s.2 x _ u (hwk.ats.2.step (hwk.step hu).below) HA.out.2.cls HIN.out.2 hx256 (HA.out.2.row x hx256) HA.out.2.wf (by have:=HA.out.2.few;omega));rw [hda]at HLA HNA;rw [hdb]at HLB HNB
      have htk:(lbs p.A p.B).take (j+1)=(lbs p.A p.B).take j++[x]:=by rw [List.take_add_one,List.getElem?_eq_getElem hjl,hx];rfl
      have hlen:Z'.length+1<=1073741824:=by
       have h1:(foundZ Z').length<=(foundTo p.A p.B (k+1)).length:=by
        rw [hfz,xzjv HZK.out];exact(xzju _ _ _ _).length_le
       rw [xzbk]at h1;have:=HFL.out (k+1);omega
      have hkz:∃ h:k<Z'.length,((Z'[k]).s,(Z'[k]).tx)=(s,tx):=by
       have h1:(foundZ Z')[k]? =some (s,tx):=by
        have hpre:foundTo p.A p.B k<+:foundZ Z':=by rw [hfz];exact xzcf _ _ _
        obtain⟨c,hc⟩:=hpre;rw [<-hc,List.getElem?_append_left (List.getElem?_eq_some_iff.1 HZK.out).1];exact HZK.out
       obtain⟨h2,h3⟩:=List.getElem?_eq_some_iff.1 h1;rw [xzbk]at h2;exact⟨h2,by rw [<-xzbx h2];exact h3⟩
      have HX:=zd (And.intro hx256 (And.intro htk (And.intro hlen hkz)));have HWY:=zd (And.intro hwk (And.intro hfz (And.intro hpar (And.intro hfr (And.intro hkw hbs)))))
      have HME:=zd (fun(u:World) (hu:Below wy.heap.size wy u)=>show Calls Tryz.prog 49 #[.pointer (some ⟨p.g,0,none⟩),.agg #[.int .i16 (p.A.nx s.1 x),.int .i16 (p.B.nx s.2 x),.int .i64 (k:Nat),.int .u8 (x:Nat)]] u (MeetIs p Z' ⟨(p.A.nx s.1 x,p.B.nx s.2 x),tx++[x],(k:Nat),x⟩ u)from
       xzxi p Z' vf' u (hwk.step hu) ⟨(p.A.nx s.1 x,p.B.nx s.2 x),tx++[x],(k:Nat),x⟩ (inS_ks HA.out.1 (nx_in HA.out.1.wf _ _)) (inS_ks HA.out.2 (nx_in HA.out.2.wf _ _)) HX.out.2.2.1)
      clear hwk hfz hpar hfr hkw hbs hda hdb hlen hkz htk hx HI
      go_wp2_with fail
      refine xzaf 21 62 (fun u=>Hid (Below wy.heap.size wy u)) (fun _ u u'=>Below u.heap.size u u')
       (fun i v u=>match i with
        |0=>v=.pointer (some ⟨p.g,0,none⟩)
        |1=>v=.pointer (some ⟨p.g,0,none⟩)
        |2=>v=.pointer (some ⟨p.g,0,none⟩)
        |3=>v=.pointer (some ⟨p.g,0,none⟩)
        |4=>v=.agg da
        |5=>v=.pointer (some ⟨bs,0,none⟩)
        |6=>v=.int .i16 s.1
        |7=>v=.int .u8 (x:Nat)
        |8=>v=.int .i16 (p.A.nx s.1 x)
        |9=>v=.pointer (some ⟨p.g,0,none⟩)
        |10=>v=.pointer (some ⟨p.g,0,none⟩)
        |11=>v=.pointer (some ⟨p.g,259,none⟩)
        |12=>v=.agg db
        |13=>v=.pointer (some ⟨bs,1,none⟩)
        |14=>v=.int .i16 s.2
        |15=>v=.int .u8 (x:Nat)
        |16=>v=.int .i16 (p.B.nx s.2 x)
        |17=>v=.agg #[.int .i16 (p.A.nx s.1 x),.int .i16 (p.B.nx s.2 x)]
        |18=>v=.int .i64 (k:Nat)
        |19=>v=.int .u8 (x:Nat)
        |20=>v=.agg #[.int .i16 (p.A.nx s.1 x),.int .i16 (p.B.nx s.2 x),.int .i64 (k:Nat),.int .u8 (x:Nat)]
        |_=>True) (by kernel_rfl) (by kernel_rfl) rfl (zd (Below.refl _ _).drew) ?_ ?_ ?_ ?_
      ·intro i u u' hix hC hr
       exact zd (hC.out.trans (hr.mono hC.out.size))
      ·intro i j v u u' hix hj hne hv hr
       match i,hix,hne,hv with
       |0,_,_,hv=>exact hv
       |1,_,_,hv=>exact hv
       |2,_,_,hv=>exact hv
       |3,_,_,hv=>exact hv
       |4,_,_,hv=>exact hv
       |5,_,_,hv=>exact hv
       |6,_,_,hv=>exact hv
       |7,_,_,hv=>exact hv
       |8,_,_,hv=>exact hv
       |9,_,_,hv=>exact hv
       |10,_,_,hv=>exact hv
       |11,_,_,hv=>exact hv
       |12,_,_,hv=>exact hv
       |13,_,_,hv=>exact hv
       |14,_,_,hv=>exact hv
       |15,_,_,hv=>exact hv
       |16,_,_,hv=>exact hv
       |17,_,_,hv=>exact hv
       |18,_,_,hv=>exact hv
       |19,_,_,hv=>exact hv
       |20,_,_,hv=>exact hv
       |i+21,hix,_,_=>omega
      ·intro i hix vs u hC hw oq ho
       match i,hix,hw,ho with
       |0,_,hw,ho=>
        simp only [zq,zh]at ho;subst ho;refine⟨rfl,?_⟩;clear hw;simp only [xzaa,tmpsTo];go_simp;exact xzab (Below.refl _ _) rfl
       |1,_,hw,ho=>
        simp only [zq,zh]at ho;subst ho;refine⟨rfl,?_⟩;clear hw;simp only [xzaa,tmpsTo,putT,zr];go_simp;exact xzab (Below.refl _ _) rfl
       |2,_,hw,ho=>
        have e1:vs 1=.pointer (some ⟨p.g,0,none⟩):=hw 1 (by omega) (by kernel_rfl);simp only [zq,zh]at ho;subst ho;refine⟨rfl,?_⟩;clear hw;simp only [xzaa,tmpsTo,putT,zr];rw [e1];clear e1;go_simp;exact xzab (Below.refl _ _) rfl
       |3,_,hw,ho=>
        have e2:vs 2=.pointer (some ⟨p.g,0,none⟩):=hw 2 (by omega) (by kernel_rfl);simp only [zq,zh]at ho;subst ho;refine⟨rfl,?_⟩;clear hw;simp only [xzaa,tmpsTo,putT,zr];rw [e2];clear e2;go_simp;exact xzab (Below.refl _ _) rfl
       |4,_,hw,ho=>
        have e3:vs 3=.pointer (some ⟨p.g,0,none⟩):=hw 3 (by omega) (by kernel_rfl);simp only [zq,zh]at ho;subst ho;refine⟨rfl,?_⟩;have kld:=HLA.out u hC.out;clear hw;simp only [xzaa,tmpsTo,putT,zr];rw [e3];clear e3;rw [xzah 35 (.tmp 42) _ rfl rfl kld];exact xzab (Below.refl _ _) rfl
       |5,_,hw,ho=>
        simp only [zq,zh]at ho;subst ho;refine⟨rfl,?_⟩;clear hw;simp only [xzaa,tmpsTo,putT,zr];go_simp;exact xzab (Below.refl _ _) rfl
       |6,_,hw,ho=>
        have e5:vs 5=.pointer (some ⟨bs,0,none⟩):=hw 5 (by omega) (by kernel_rfl);simp only [zq,zh]at ho;subst ho;refine⟨rfl,?_⟩;have kc:=(HSC.out u hC.out).1;clear hw;simp only [xzaa,tmpsTo,putT,zr];rw [e5];clear e5;go_simp;exact xzab (Below.refl _ _) rfl
       |7,_,hw,ho=>
        simp only [zq,zh]at ho;subst ho;refine⟨rfl,?_⟩;clear hw;simp only [xzaa,tmpsTo,putT,zr];go_simp;exact xzab (Below.refl _ _) rfl
       |8,_,hw,ho=>
        have e4:vs 4=.agg da:=hw 4 (by omega) (by kernel_rfl);have e6:vs 6=.int .i16 s.1:=hw 6 (by omega) (by kernel_rfl);have e7:vs 7=.int .u8 (x:Nat):=hw 7 (by omega) (by kernel_rfl);simp only [zq,zh]at ho;subst ho;refine⟨rfl,?_⟩;clear hw;simp only [xzaa,tmpsTo,putT,zr];rw [e4,e6,e7];clear e4 e6 e7;go_simp;refine xzak ((HNA.out u hC.out).mono ?_);rintro e u' ⟨rfl,hbu⟩;exact⟨_,rfl,hbu,rfl⟩
       |9,_,hw,ho=>
        simp only [zq,zh]at ho;subst ho;refine⟨rfl,?_⟩;clear hw;simp only [xzaa,tmpsTo,putT,zr];go_simp;exact xzab (Below.refl _ _) rfl
       |10,_,hw,ho=>
        have e9:vs 9=.pointer (some ⟨p.g,0,none⟩):=hw 9 (by omega) (by kernel_rfl);simp only [zq,zh]at ho;subst ho;refine⟨rfl,?_⟩;clear hw;simp only [xzaa,tmpsTo,putT,zr];rw [e9];clear e9;go_simp;exact xzab (Below.refl _ _) rfl
       |11,_,hw,ho=>
        have e10:vs 10=.pointer (some ⟨p.g,0,none⟩):=hw 10 (by omega) (by kernel_rfl);simp only [zq,zh]at ho;subst ho;refine⟨rfl,?_⟩;clear hw;simp only [xzaa,tmpsTo,putT,zr];rw [e10];clear e10;go_simp;exact xzab (Below.refl _ _) rfl
       |12,_,hw,ho=>
        have e11:vs 11=.pointer (some ⟨p.g,259,none⟩):=hw 11 (by omega) (by kernel_rfl);simp only [zq,zh]at ho;subst ho;refine⟨rfl,?_⟩;have kld:=HLB.out u hC.out;clear hw;simp only [xzaa,tmpsTo,putT,zr];rw [e11];clear e11;rw [xzah 35 (.tmp 50) _ rfl rfl kld];exact xzab (Below.refl _ _) rfl
       |13,_,hw,ho=>
        simp only [zq,zh]at ho;subst ho;refine⟨rfl,?_⟩;clear hw;simp only [xzaa,tmpsTo,putT,zr];go_simp;exact xzab (Below.refl _ _) rfl
       |14,_,hw,ho=>
        have e13:vs 13=.pointer (some ⟨bs,1,none⟩):=hw 13 (by omega) (by kernel_rfl);simp only [zq,zh]at ho;subst ho;refine⟨rfl,?_⟩;have kc:=(HSC.out u hC.out).2;clear hw;simp only [xzaa,tmpsTo,putT,zr];rw [e13];clear e13;go_simp;exact xzab (Below.refl _ _) rfl
       |15,_,hw,ho=>
        simp only [zq,zh]at ho;subst ho;refine⟨rfl,?_⟩;clear hw;simp only [xzaa,tmpsTo,putT,zr];go_simp;exact xzab (Below.refl _ _) rfl
       |16,_,hw,ho=>
        have e12:vs 12=.agg db:=hw 12 (by omega) (by kernel_rfl);have e14:vs 14=.int .i16 s.2:=hw 14 (by omega) (by kernel_rfl);have e15:vs 15=.int .u8 (x:Nat):=hw 15 (by omega) (by kernel_rfl);simp only [zq,zh]at ho;subst ho;refine⟨rfl,?_⟩;clear hw;simp only [xzaa,tmpsTo,putT,zr];rw [e12,e14,e15];clear e12 e14 e15;go_simp;refine xzak ((HNB.out u hC.out).mono ?_);rintro e u' ⟨rfl,hbu⟩;exact⟨_,rfl,hbu,rfl⟩
       |17,_,hw,ho=>
        have e8:vs 8=.int .i16 (p.A.nx s.1 x):=hw 8 (by omega) (by kernel_rfl);have e16:vs 16=.int .i16 (p.B.nx s.2 x):=hw 16 (by omega) (by kernel_rfl);simp only [zq,zh]at ho;subst ho;refine⟨rfl,?_⟩;clear hw;simp only [xzaa,tmpsTo,putT,zr];rw [e8,e16];clear e8 e16;go_simp;exact xzab (Below.refl _ _) rfl
       |18,_,hw,ho=>
        simp only [zq,zh]at ho;subst ho;refine⟨rfl,?_⟩;clear hw;simp only [xzaa,tmpsTo,putT,zr];go_simp;exact xzab (Below.refl _ _) rfl
       |19,_,hw,ho=>
        simp only [zq,zh]at ho;subst ho;refine⟨rfl,?_⟩;clear hw;simp only [xzaa,tmpsTo,putT,zr];go_simp;exact xzab (Below.refl _ _) rfl
       |20,_,hw,ho=>
        have e17:vs 17=.agg #[.int .i16 (p.A.nx s.1 x),.int .i16 (p.B.nx s.2 x)]:=hw 17 (by omega) (by kernel_rfl);have e18:vs 18=.int .i64 (k:Nat):=hw 18 (by omega) (by kernel_rfl);have e19:vs 19=.int .u8 (x:Nat):=hw 19 (by omega) (by kernel_rfl);simp only [zq,zh]at ho;subst ho;refine⟨rfl,?_⟩;clear hw;simp only [xzaa,tmpsTo,putT,zr];rw [e17,e18,e19];clear e17 e18 e19;go_simp;exact xzab (Below.refl _ _) rfl
       |i+21,hix,_,_=>omega
      intro vs1 u hC hV;have q0:vs1 0=.pointer (some ⟨p.g,0,none⟩):=hV 0 (by omega);have q20:vs1 20=.agg #[.int .i16 (p.A.nx s.1 x),.int .i16 (p.B.nx s.2 x),.int .i64 (k:Nat),.int .u8 (x:Nat)]:=hV 20 (by omega);clear hV;simp only [xzaa,tmpsTo,putT,zr,List.drop_succ_cons,List.drop_zero];rw [q0,q20];clear q0 q20;generalize vs1 1=g1;generalize vs1 2=g2;generalize vs1 3=g3;generalize vs1 4=g4;generalize vs1 5=g5;generalize vs1 6=g6;generalize vs1 7=g7;generalize vs1 8=g8;generalize vs1 9=g9;generalize vs1 10=g10;generalize vs1 11=g11;generalize vs1 12=g12;generalize vs1 13=g13;generalize vs1 14=g14;generalize vs1 15=g15;generalize vs1 16=g16;generalize vs1 17=g17;generalize vs1 18=g18;generalize vs1 19=g19;have HUC:=zd hC.out;clear hC
      go_wp2_with(go_at_call 49;refine(HME.out u HUC.out).mono ?_;rintro e u2 ⟨rfl,vf2,hwk2,hkp2⟩;have H2:=zd (And.intro hwk2 hkp2);clear hwk2 hkp2)
      refine⟨⟨j+1,rfl,hjl,zd ⟨_,vf2,H2.out.1,?_,?_,?_,?_,?_⟩⟩,by simp [intOf];omega⟩
      ·rw [xzjs,HWY.out.2.1,HX.out.2.1,xzec];rfl
      ·unfold meetZ
       split
       ·exact HWY.out.2.2.1
       ·obtain⟨hk',he⟩:=HX.out.2.2.2
        exact ParZ.snoc HWY.out.2.2.1 HX.out.1 (.inr ⟨k,hk',rfl,by show tx++[x]=(Z'[k]).tx++[x];rw [show(Z'[k]).tx=tx from congrArg Prod.snd he]⟩)
      ·exact(HWY.out.2.2.2.1.trans (FrA.keep o (KeepW.step HUC.out HWY.out.1.low.2.2.2))).trans (FrA.keep o H2.out.2)
      ·exact HASK.out.keep _ _ ((Below.refl _ _).trans (H2.out.2.below _ _ (Nat.le_refl _) (HUC.out.mono HWY.out.1.low.2.2.2))) HWY.out.2.2.2.2.1
      ·exact H2.out.2.blk _ _ _ (HWY.out.2.2.2.2.2.step HUC.out) (by decide) (by decide)
     ·have hdl2:decide ((j:Int)<((lbs p.A p.B).length:Int))=false:=by simp;omega
      obtain rfl:j=(lbs p.A p.B).length:=by omega
      have hk1:IntKind.i64.wrap ((k:Int)+1)=((k+1:Nat):Int):=by rw [IntKind.wrap_i64];omega
      rw [List.take_length]at hfz
      have hf2:foundZ Z'=foundTo p.A p.B (k+1):=by rw [hfz,xzjv HZK.out]
      have HE:=zd (And.intro hwk (And.intro hf2 (And.intro hpar (And.intro hfr hkw))))
      have HK1:=zd (show k+1<=Z'.length/\∀ (i:Nat) (h:i<Z'.length),i<k+1->pr (Z'[i]).s=false by
       have hpre:foundTo p.A p.B k<+:foundZ Z':=by rw [hfz];exact xzcf _ _ _
       have hkl2:=(List.getElem?_eq_some_iff.1 HZK.out).1;refine⟨by have:=hpre.length_le;rw [xzbk]at this;omega,fun i h hi=>?_⟩;have h1:=HNO.out i (by omega) hi
       have e:(foundTo p.A p.B k)[i]'(by omega)=((Z'[i]).s,(Z'[i]).tx):=by
        rw [<-xzbx h];exact(List.IsPrefix.getElem hpre (by omega))
       rw [e]at h1
       exact h1)
      clear hwk hf2 hpar hfr hkw hbs hfz HI;go_wp2
      exact⟨⟨k+1,rfl,zd ⟨Z',vf',HE.out.1,HE.out.2.1,HE.out.2.2.1,HE.out.2.2.2.1,HE.out.2.2.2.2,HK1.out.1,HK1.out.2⟩,HLY.out.2⟩,by simp [intOf];omega⟩
  ·have hdl:decide ((k:Int)<(Z.length:Int))=false:=by simp;omega
   have HE:=zd (show FirstIs p pr K Kt o w (.returned (.int .i64 (-1))) wz by
    have hall:foundTo p.A p.B k=allF p.A p.B:=xzcm HA.out.1.wf HA.out.2.wf (by rw [<-hfz,xzbk];omega);refine⟨Z,_, -1,rfl,hwk,hpar,hzl,hfr,.inr ⟨rfl,?_,hfz.trans hall,hkw⟩⟩;rw [<-hall,<-hfz]
    refine xzms fun i hi=>?_
    rw [xzbk]at hi;rw [xzbx hi]
    exact hno i hi (by omega))
   clear hwk hfz hpar hfr hkw hno HH;go_wp2;go_ret;exact HE.out
end
section
open Go.RowKit
section actsG
variable {P : Program} {ops : Array Oper} {C : World → Prop}
variable {h N : Nat} {R : Nat → World → World → Prop} {V : Nat → Value → World → Prop} {a0 : Act}
end actsG
end
end Go.Proofs.YtdjpphjpnkfeiaaGreatDoor
