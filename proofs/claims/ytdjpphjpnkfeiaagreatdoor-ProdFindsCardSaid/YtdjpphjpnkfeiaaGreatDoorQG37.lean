/-
 WHAT hackleref12.Walk ANSWERS: a contract. Condition: automata that may be lie there, their classes being bytes.
-/
import Derived.Test.YtdjpphjpnkfeiaaGreatDoorQG33
import Derived.Test.YtdjpphjpnkfeiaaGreatDoorQG36
namespace Go.Proofs.YtdjpphjpnkfeiaaGreatDoor
open Go.RowKit
attribute [local irreducible] FreeW textFrame
theorem xzxl {A B:Df}(hA:OkD A)(hB:OkD B)(k:Nat):(foundR A B k).length<=boundS A B:=by rw [<-xzgt];exact xzcl hA.wf hB.wf k
theorem yzbu {A B:Df}(hA:OkD A)(hB:OkD B)(k:Nat):∀ y∈foundR A B k,noS y.1=false/\A.InS y.1.1/\B.InS y.1.2:=by rw [<-xzgt];exact(xzfc hA.wf hB.wf k).2
theorem xzxm {A B:Df}(hA:OkD A)(hB:OkD B){k:Nat}(h:(foundR A B k).length<=k):foundR A B k=allF A B:=by
 rw [<-xzgt]at h ⊢;exact xzcm hA.wf hB.wf h
theorem xzft {A B:Df}{k:Nat}{x:SS×List Nat}(h:(foundR A B k)[k]? =some x):foundR A B (k+1)=alongQ noS (dlt A B) x (List.range 256) (foundR A B k):=xzbv h
theorem yzfo {D:Df}{a:Int}(ha:D.InS a)(b:Nat):D.stepR a b=D.nx a b:=by
 unfold Df.InS at ha;unfold Df.stepR Df.nx
 by_cases e:a= -1
 ·rw [if_pos (by omega),if_pos e]
 ·rw [if_neg (by omega),if_neg e]
theorem xzip (D:Df)(a:Int)(b:Nat)(v:Value)(w:World)(h:DfAt w D v)(hm:MayD D)(hf:∀ b,b<256->D.of b<256)(hb:b<256)(ha:D.InS a):
 Calls Tryz.prog 29 #[v,.int .i64 a,.int .u8 (b:Nat)] w fun e w'=>e=.returned (.int .i64 (D.nx a b))/\Below w.heap.size w w':=by
 have:=xzoh D a b v w h hm hf hb
 rwa [yzfo ha]at this
def RWalkIs (A B:Df)(w:World):Ending->World->Prop:=fun e w'=>∃ v,e=.returned v/\PairR w.heap.size w' v (allF A B)/\Below w.heap.size w w'
theorem PairR.low {B B':Nat}{W:World}{v:Value}{F:List (SS×List Nat)}(h:PairR B W v F)(hb:B'<=B):PairR B' W v F:=by
 refine⟨h.1,h.2.imp id ?_⟩;rintro⟨g,cap,cur,e,h1,h2⟩;exact⟨g,cap,cur,e,by omega,h2⟩
def seenQ (s:SS)(F:List (SS×List Nat))(k:Nat):Bool:=noS s||(F.take k).any fun y=>decide (y.1=s)
theorem xzxn (s:SS)(F:List (SS×List Nat)):seenQ s F 0=noS s:=by simp [seenQ]
theorem xzxo {s:SS}{F:List (SS×List Nat)}{k:Nat}(h:k<F.length):seenQ s F (k+1)=(seenQ s F k||decide (F[k].1=s)):=by
 unfold seenQ;rw [List.take_succ_eq_append_getElem h,List.any_append]
 simp [Bool.or_assoc]
theorem yzbv {s:SS}{t:List Nat}{F:List (SS×List Nat)}:(seenQ s F F.length=true->meetQ noS F (s,t)=F)/\(seenQ s F F.length=false->meetQ noS F (s,t)=F++[(s,t)]):=by
 unfold seenQ;rw [List.take_length];refine⟨fun h=>xzfb ?_,fun h=>?_⟩
 ·rcases Bool.or_eq_true _ _▸h with h|h
  ·exact .inl h
  ·obtain⟨y,hy,e⟩:=List.any_eq_true.1 h
   exact .inr (List.mem_map.2 ⟨y,hy,of_decide_eq_true e⟩)
 ·obtain⟨h1,h2⟩:=Bool.or_eq_false_iff.1 h
  refine xzgs h1 fun hm=>?_
  obtain⟨y,hy,e⟩:=List.mem_map.1 hm;have:=List.any_eq_false.1 h2 y hy;exact this (decide_eq_true e)
theorem noS_lt {X Y:Int}(hX: -1<=X)(hY: -1<=Y):noS (X,Y)=(decide (X<0)&&decide (Y<0)):=by
 unfold noS
 by_cases h:X<0
 ·by_cases h2:Y<0
  ·obtain rfl:X= -1:=by omega
   obtain rfl:Y= -1:=by omega
   rfl
  ·rw [decide_eq_false h2,Bool.and_false,decide_eq_false_iff_not]
   intro e;have:=congrArg Prod.snd e;simp at this;omega
 ·rw [decide_eq_false h,Bool.false_and,decide_eq_false_iff_not]
  intro e;have:=congrArg Prod.fst e;simp at this;omega
theorem yzfp (s:SS)(X Y:Int):decide (s=(X,Y))=(decide (s.1=X)&&decide (s.2=Y)):=by
 rw [Bool.eq_iff_iff,Bool.and_eq_true,decide_eq_true_eq,decide_eq_true_eq,decide_eq_true_eq,Prod.ext_iff]
theorem xzmw {δ:SS->Nat->SS}{n:Nat}(x:SS×List Nat)(hx:x.2.length<n):∀ (bs:List Nat) (F:List (SS×List Nat)),(∀ y∈F,y.2.length<=n)->∀ y∈alongQ noS δ x bs F,y.2.length<=n
 |[],_,h=>h
 |b::bs,F,h=>xzmw x hx bs _ (fun y hy=>by
  have hy:y∈meetQ noS F (δ x.1 b,x.2++[b]):=hy;unfold meetQ at hy
  split at hy
  ·exact h y hy
  ·rcases List.mem_append.1 hy with hy|hy
   ·exact h y hy
   ·rw [List.mem_singleton]at hy;subst hy;simp;omega)
theorem xzmx {A B:Df}:∀ (k:Nat) (y:SS×List Nat),y∈foundR A B k->y.2.length<=k
 |0,y,hy=>by
  have hy':y∈startF A B:=hy;unfold startF meetQ at hy'
  split at hy'
  ·simp at hy'
  ·simp at hy';subst hy';simp
 |k+1,y,hy=>by
  have ih:=xzmx (A:=A) (B:=B) k
  by_cases hk:k<(foundR A B k).length
  ·rw [xzft (List.getElem?_eq_getElem hk)]at hy
   exact xzmw _ (by have:=ih _ (List.getElem_mem hk);omega) _ _ (fun z hz=>Nat.le_succ_of_le (ih z hz)) y hy
  ·have e:foundR A B (k+1)=foundR A B k:=xzbq (show(foundR A B k).length<=k by omega)
   rw [e]at hy;exact Nat.le_succ_of_le (ih y hy)
theorem PairR.cellsAt {B bo n cap:Nat}{W:World}{F:List (SS×List Nat)}(h:PairR B W (.slice (some ⟨bo,0,none⟩) n cap) F){i:Nat}(hi:i<F.length):bo<W.heap.size/\B<=bo/\∀ k x,(pairV F[i])[k]? =some x->W.cell? ⟨bo,i*3+k,none⟩=some x:=by
 obtain⟨b,c,e,_,h3,h4⟩:=h.at hi
 injection e with e1 _ _
 injection e1 with e1
 injection e1 with e1 _ _
 subst e1;exact⟨h3,(World.ownsRow.lt h bo rfl).1,h4⟩
theorem cvt1 (u:World)(g c:Nat)(h:BlkIs u g 5 #[.int .u8 (c:Nat)])(hc:c<256):(convert 71 9 (.slice (some ⟨g,0,none⟩) 1 1)).run Tryz.prog u=.ok (.string (txB [c])) u:=by
 have:=run_convert_bytes_back (P:=Tryz.prog) u 71 9 5 ⟨g,0,none⟩ 1 [UInt8.ofNat c] Tryz.underlying71 Tryz.underlying5 Tryz.underlying9 (fun j hj=>by
  obtain rfl:j=0:=by simpa using hj
  rw [Addr.add_lit,Nat.zero_add,h.cell 0]
  simp
  omega)
 exact this
theorem txB_app (l:List Nat)(c:Nat):txB l++txB [c]=txB (l++[c]):=by
 apply ByteArray.ext
 simp [txB]
def RGq (B bo:Nat)(v0:Value)(F:List (SS×List Nat))(u u':World):Prop:=Below B u u'/\(PairR B u v0 F->PairR B u' v0 F)/\∀ b t cs,BlkIs u b t cs->b≠bo->BlkIs u' b t cs
def RQ (B bo:Nat)(v0:Value)(F:List (SS×List Nat))(i:Nat)(u u':World):Prop:=if i=15 then RGq B bo v0 F u u'/\B<=u.heap.size else Below u.heap.size u u'
section
variable {B bo : Nat} {v0 : Value} {F : List (SS × List Nat)} {i : Nat} {u u' : World}
theorem RQ.below (h:i≠15)(hb:Below u.heap.size u u'):RQ B bo v0 F i u u':=by unfold RQ;rw [if_neg h];exact hb
theorem RQ.not15 (hr:RQ B bo v0 F i u u')(h:i≠15):Below u.heap.size u u':=by unfold RQ at hr;rwa [if_neg h]at hr
theorem RQ.low (hr:RQ B bo v0 F i u u')(hB:B<=u.heap.size):RGq B bo v0 F u u':=by
 unfold RQ at hr
 by_cases h:i=15
 ·rw [if_pos h]at hr;exact hr.1
 ·rw [if_neg h]at hr;exact⟨hr.mono hB,fun h=>h.step hr,fun b t cs h _=>h.step hr⟩
theorem RQ.blk (hr:RQ B bo v0 F i u u'){b:Nat}{t:TypeId}{cs:Array Value}(h:BlkIs u b t cs)(hb:b≠bo):BlkIs u' b t cs:=by
 unfold RQ at hr
 by_cases h':i=15
 ·rw [if_pos h']at hr;exact hr.1.2.2 b t cs h hb
 ·rw [if_neg h']at hr;exact h.step hr
theorem RQ.last {n cap:Nat}(hg:u.grownBy u' (Value.ownBlock (.slice (some ⟨bo,0,none⟩) n cap)))(hk:PairR B u' (.slice (some ⟨bo,0,none⟩) n cap) F)(hbo:B<=bo)(hB:B<=u.heap.size):RQ B bo (.slice (some ⟨bo,0,none⟩) n cap) F 15 u u':=by
 unfold RQ;rw [if_pos rfl];refine⟨⟨(Below.refl _ _).grown hg hB (fun q hq=>?_),fun _=>hk,fun b t cs h hb=>xzbw h hg ?_⟩,hB⟩
 ·have:q=bo:=by simpa [Value.ownBlock]using hq.symm
  omega
 ·intro e;simp [Value.ownBlock]at e;exact hb e
theorem DfB.step1 {g:Nat}{f:Nat->Nat}{n:Int}{x y:Value}(h:DfB u g f n x y)(hb:Below B u u')(hg:g<B):DfB u' g f n x y:=fun k hk=>(hb.cell (p:=⟨g,k,none⟩) hg).trans (h k hk)
end
theorem PairR.form {B:Nat}{W:World}{v:Value}{F:List (SS×List Nat)}(h:PairR B W v F):∃ A c,v=.slice A F.length c:=by
 rcases h.2 with⟨rfl,e⟩|⟨g,cap,cur,rfl,_⟩
 ·exact⟨none,0,by rw [e]⟩
 ·exact⟨_,_,rfl⟩
set_option maxRecDepth 20000 in
set_option maxHeartbeats 16000000 in
theorem xzsc (A B:Df)(va vb:Value)(w:World)(ha:DfAt w A va)(hb:DfAt w B vb)(hma:MayD A)(hmb:MayD B)(hfa:∀ b,b<256->A.of b<256)(hfb:∀ b,b<256->B.of b<256):
 Calls Tryz.prog 11 #[va,vb] w (RWalkIs A B w):=by
 have HAA:=zd (And.intro ha hb);obtain⟨An,cn,At,ct,rfl⟩:=xzal ha;obtain⟨Bn,dn,Bt,dt,rfl⟩:=xzal hb;obtain⟨W1,hbx,hsz,hb1,hx1⟩:=xzbu A.of A.n (.slice An A.next.length cn) (.slice At A.tag.length ct) w;obtain⟨W2,hbx2,hsz2,hb2,hx2⟩:=xzbu B.of B.n (.slice Bn B.next.length dn) (.slice Bt B.tag.length dt) W1
 have h2s:W2.heap.size=w.heap.size+2:=by omega
 have hd1:=(DfB.of hx1).step hb2;have hd2:=DfB.of hx2;rw [hsz]at hd2;have HP:=zd (show Below w.heap.size w W2/\DfB W2 w.heap.size A.of A.n (.slice An A.next.length cn) (.slice At A.tag.length ct)/\DfB W2 (w.heap.size+1) B.of B.n (.slice Bn B.next.length dn) (.slice Bt B.tag.length dt)/\w.heap.size+2<=W2.heap.size from⟨hb1.trans (hb2.mono (by omega)),hd1,hd2,Nat.le_of_eq h2s.symm⟩);have HFA:=zd (fun(u:World) (hu:Below w.heap.size w u)=>xzgf A _ u (HAA.out.1.step hu));have HFB:=zd (fun(u:World) (hu:Below w.heap.size w u)=>xzgf B _ u (HAA.out.2.step hu));have HSA0:=zd (fun(a:Int) (b:Nat) (u:World) (hu:Below w.heap.size w u) (hb:b<256) (ha:A.InS a)=>xzip A a b _ u (HAA.out.1.step hu) hma hfa hb ha);have HSB0:=zd (fun(a:Int) (b:Nat) (u:World) (hu:Below w.heap.size w u) (hb:b<256) (ha:B.InS a)=>xzip B a b _ u (HAA.out.2.step hu) hmb hfb hb ha);have HLA:=zd (fun(u:World) (hu:DfB u w.heap.size A.of A.n (.slice An A.next.length cn) (.slice At A.tag.length ct))=>loadDr hu);have HLB:=zd (fun(u:World) (hu:DfB u (w.heap.size+1) B.of B.n (.slice Bn B.next.length dn) (.slice Bt B.tag.length dt))=>loadDr hu);have HOK:=zd (And.intro (hma.okD hfa) (hmb.okD hfb));have HBD:=zd (xzkx (hma.okD hfa) (hmb.okD hfb));obtain⟨da,hda⟩:∃ dc,dfC A.of A.n (.slice An A.next.length cn) (.slice At A.tag.length ct)=dc:=⟨_,rfl⟩;obtain⟨db,hdb⟩:∃ dc,dfC B.of B.n (.slice Bn B.next.length dn) (.slice Bt B.tag.length dt)=dc:=⟨_,rfl⟩
 rw [hda]at hbx HFA HSA0 HLA;rw [hdb]at hbx2 HFB HSB0 HLB
 have hdsa:da.size=259:=by rw [<-hda];exact xzac _ _ _ _
 have hdsb:db.size=259:=by rw [<-hdb];exact xzac _ _ _ _
 rw [hda,hdb];have HDC:=zd (And.intro hda hdb);clear hb1 hx1 hd1 hda hb2 hx2 hd2 hdb ha hb h2s HAA hma hmb hfa hfb
 by_cases hnil:A.next.length=0/\B.next.length=0
 ·have a1:A.first= -1:=by unfold Df.first;rw [if_pos hnil.1]
  have a2:B.first= -1:=by unfold Df.first;rw [if_pos hnil.2]
  have HN:=zd (show allF A B=[]by
   have h1:foundTo A B 0=[]:=by show startF A B=[];unfold startF;rw [a1,a2];rfl
   have:=xzcm HOK.out.1.wf HOK.out.2.wf (k:=0) (by rw [h1];exact Nat.le_refl _)
   rw [<-this,h1])
  rw [a1]at HFA;rw [a2]at HFB;clear a1 a2 hnil
  go_enter Tryz.func11,Tryz.ntmps11
  go_wp2_with(first
   |((with_reducible refine xzao rfl (.tmp 2) ?_ ?_ HP.out.2.1 ?_);exact rfl;exact rfl;rw [HDC.out.1])
   |(go_at_call 28;refine(HFA.out _ HP.out.1).mono ?_;rintro e u1 ⟨rfl,hbu⟩;have H1:=zd (And.intro (HP.out.1.trans (hbu.mono HP.out.1.size)) (HP.out.2.2.1.step hbu));clear HFA hbu)
   |((with_reducible refine xzev (.tmp 3) ?_ ?_ H1.out.2 ?_ ?_);exact rfl;exact rfl;kernel_rfl;rw [HDC.out.2])
   |(go_at_call 28;refine(HFB.out _ H1.out.1).mono ?_;rintro e u2 ⟨rfl,hbu⟩;have H2:=zd (H1.out.1.trans (hbu.mono H1.out.1.size));clear hbu))
  go_ret;exact⟨_,rfl,by rw [HN.out];exact PairR.nil _ _,H2.out⟩
 have HST:=zd (show startF A B=[((A.first,B.first),[])]by
  unfold startF;refine xzgs (F:=[]) ?_ (by simp);unfold noS;rw [decide_eq_false_iff_not];intro e;have e1:=congrArg Prod.fst e;have e2:=congrArg Prod.snd e;refine hnil ⟨?_,?_⟩
  ·show A.next.length=0
   unfold Df.first at e1
   by_cases h:A.next.length=0
   ·exact h
   ·simp only [if_neg h]at e1;omega
  ·show B.next.length=0
   unfold Df.first at e2
   by_cases h:B.next.length=0
   ·exact h
   ·simp only [if_neg h]at e2;omega)
 have hcs:decide (A.first<0)=false\/(decide (A.first<0)=true/\decide (B.first<0)=false):=by
  by_cases h:A.next.length=0
  ·right
   have a1:A.first= -1:=by unfold Df.first;rw [if_pos h]
   have a2:B.first=0:=by unfold Df.first;rw [if_neg (fun e=>hnil ⟨h,e⟩)]
   rw [a1,a2];exact⟨rfl,rfl⟩
  ·left
   have a1:A.first=0:=by unfold Df.first;rw [if_neg h]
   rw [a1];rfl
 clear hnil
 have HUP:=zd (fun(u u':World) (h:Below w.heap.size w u/\DfB u w.heap.size A.of A.n (.slice An A.next.length cn) (.slice At A.tag.length ct)/\DfB u (w.heap.size+1) B.of B.n (.slice Bn B.next.length dn) (.slice Bt B.tag.length dt)/\w.heap.size+2<=u.heap.size) (hb:Below u.heap.size u u')=>show Below w.heap.size w u'/\DfB u' w.heap.size A.of A.n (.slice An A.next.length cn) (.slice At A.tag.length ct)/\DfB u' (w.heap.size+1) B.of B.n (.slice Bn B.next.length dn) (.slice Bt B.tag.length dt)/\w.heap.size+2<=u'.heap.size from
  ⟨h.1.trans (hb.mono h.1.size),h.2.1.step hb,h.2.2.1.step hb,Nat.le_trans h.2.2.2 hb.size⟩)
 have HFL:=zd (fun k=>xzxl HOK.out.1 HOK.out.2 k);have HFI:=zd (fun k=>yzbu HOK.out.1 HOK.out.2 k);have hcs2:(decide (A.first<0)=false/\True)\/(decide (A.first<0)=true/\decide (B.first<0)=false):=hcs.imp (fun h=>⟨h,trivial⟩) id;clear hcs
 rcases hcs2 with⟨e1,e2⟩|⟨e1,e2⟩
 all_goals
  go_enter Tryz.func11,Tryz.ntmps11
  go_wp2_with(first
   |((with_reducible refine xzao rfl (.tmp 2) ?_ ?_ HP.out.2.1 ?_);exact rfl;exact rfl;rw [HDC.out.1])
   |(go_at_call 28;(with_reducible refine(HFA.out _ HP.out.1).mono ?_);rintro e u1 ⟨rfl,hbu⟩;have HP1:=zd (HUP.out _ _ HP.out hbu);clear hbu)
   |((fail_if_success (have:True:=e2));(with_reducible refine xzev (.tmp 3) ?_ ?_ HP1.out.2.2.1 ?_ ?_);exact rfl;exact rfl;kernel_rfl;rw [HDC.out.2])
   |(go_at_call 28;(with_reducible refine(HFB.out _ HP1.out.1).mono ?_);rintro e uz ⟨rfl,hbu⟩;have HP2:=zd (HUP.out _ _ HP1.out hbu);clear hbu))
  first
   |(have HQ:=HP2;clear HP2)
   |(have HQ:=HP1)
  clear e2
  refine xzaf 8 106 (fun u=>Hid (Below w.heap.size w u/\DfB u w.heap.size A.of A.n (.slice An A.next.length cn) (.slice At A.tag.length ct)/\DfB u (w.heap.size+1) B.of B.n (.slice Bn B.next.length dn) (.slice Bt B.tag.length dt)/\w.heap.size+2<=u.heap.size)) (fun _ u u'=>Below u.heap.size u u')
   (fun i v u=>match i with
    |0=>v=.slice none 0 0
    |1=>v=.agg da
    |2=>v=.int .i64 A.first
    |3=>v=.agg db
    |4=>v=.int .i64 B.first
    |5=>v=.agg #[.int .i64 A.first,.int .i64 B.first,.string ⟨#[]⟩]
    |6=>∃ b,v=.slice (some ⟨b,0,none⟩) 1 1/\BlkIs u b 42 #[.int .i64 A.first,.int .i64 B.first,.string ⟨#[]⟩]
    |7=>PairR (w.heap.size+2) u v [((A.first,B.first),[])]
    |_=>True) (by kernel_rfl) (by kernel_rfl) rfl (zd ⟨HQ.out.1.drew,HQ.out.2.1,HQ.out.2.2.1,HQ.out.2.2.2⟩) ?_ ?_ ?_ ?_
  ·intro i u u' hix hC hr
   exact zd ⟨hC.out.1.trans (hr.mono hC.out.1.size),hC.out.2.1.step hr,hC.out.2.2.1.step hr,Nat.le_trans hC.out.2.2.2 hr.size⟩
  ·intro i j v u u' hix hj hne hv hr
   match i,hix,hne,hv with
   |0,_,_,hv=>exact hv
   |1,_,_,hv=>exact hv
   |2,_,_,hv=>exact hv
   |3,_,_,hv=>exact hv
   |4,_,_,hv=>exact hv
   |5,_,_,hv=>exact hv
   |6,_,hne,hv=>
    obtain⟨b,e1,e2⟩:=hv;exact⟨b,e1,e2.step hr⟩
   |7,_,hne,hv=>
    exact hv.step hr
   |i+8,hix,_,_=>omega
  ·intro i hix vs u hC hw oq ho
   match i,hix,hw,ho with
   |0,_,hw,ho=>
    simp only [zq,zh]at ho;subst ho;refine⟨rfl,?_⟩;clear hw;simp only [xzaa,tmpsTo];go_simp;exact xzab (Below.refl _ _) rfl
   |1,_,hw,ho=>
    simp only [zq,zh]at ho;subst ho;refine⟨rfl,?_⟩;clear hw;simp only [xzaa,tmpsTo,putT,zr];rw [xzah 28 (.tmp 2) _ rfl rfl (HLA.out u hC.out.2.1)];exact xzab (Below.refl _ _) rfl
   |2,_,hw,ho=>
    have e1:vs 1=.agg da:=hw 1 (by omega) (by kernel_rfl);simp only [zq,zh]at ho;subst ho;refine⟨rfl,?_⟩;clear hw;simp only [xzaa,tmpsTo,putT,zr];rw [e1];clear e1;go_simp;refine xzak ((HFA.out u hC.out.1).mono ?_);rintro e u' ⟨rfl,hbu⟩;exact⟨_,rfl,hbu,rfl⟩
   |3,_,hw,ho=>
    simp only [zq,zh]at ho;subst ho;refine⟨rfl,?_⟩;clear hw;simp only [xzaa,tmpsTo,putT,zr];rw [xzah 28 (.tmp 3) _ rfl rfl (HLB.out u hC.out.2.2.1)];exact xzab (Below.refl _ _) rfl
   |4,_,hw,ho=>
    have e3:vs 3=.agg db:=hw 3 (by omega) (by kernel_rfl);simp only [zq,zh]at ho;subst ho;refine⟨rfl,?_⟩;clear hw;simp only [xzaa,tmpsTo,putT,zr];rw [e3];clear e3;go_simp;refine xzak ((HFB.out u hC.out.1).mono ?_);rintro e u' ⟨rfl,hbu⟩;exact⟨_,rfl,hbu,rfl⟩
   |5,_,hw,ho=>
    have e2:vs 2=.int .i64 A.first:=hw 2 (by omega) (by kernel_rfl);have e4:vs 4=.int .i64 B.first:=hw 4 (by omega) (by kernel_rfl);simp only [zq,zh]at ho;subst ho;refine⟨rfl,?_⟩;clear hw;simp only [xzaa,tmpsTo,putT,zr];rw [e2,e4];clear e2 e4;go_simp;exact xzab (Below.refl _ _) rfl
   |6,_,hw,ho=>
    have e5:vs 5=.agg #[.int .i64 A.first,.int .i64 B.first,.string ⟨#[]⟩]:=hw 5 (by omega) (by kernel_rfl);simp only [zq,zh]at ho;subst ho;refine⟨rfl,?_⟩;clear hw;simp only [xzaa,tmpsTo,putT,zr];rw [e5];clear e5;go_simp;exact xzab ((Below.refl _ _).alloc (Nat.le_refl _) _) ⟨_,rfl,BlkIs.new _ _ _⟩
   |7,_,hw,ho=>
    have e0:vs 0=.slice none 0 0:=hw 0 (by omega) (by kernel_rfl);obtain⟨b6,e6,hb6⟩:=hw 6 (by omega) (by kernel_rfl);simp only [zq,zh]at ho;subst ho;refine⟨rfl,?_⟩;obtain⟨v',W',hrun,ho1,hg1,_⟩:=(PairR.nil (w.heap.size+2) u).push (x:=((A.first,B.first),[])) (b:=b6) (c:=1) hb6 (by decide) hC.out.2.2.2;clear hw;simp only [xzaa,tmpsTo,putT,zr];rw [e0];clear e0;rw [e6];clear e6;rw [xzca (.tmp 20) (.tmp 26) 38 38 rfl rfl rfl hrun];exact xzab ((Below.refl _ _).grown hg1 (Nat.le_refl _) (fun q hq=>by simp [Value.ownBlock]at hq)) ho1
   |i+8,hix,_,_=>omega
  intro vs1 u hC hV;have q7:PairR (w.heap.size+2) u (vs1 7) [((A.first,B.first),[])]:=hV 7 (by omega);clear hV;simp only [xzaa,tmpsTo,putT,zr,List.drop_succ_cons,List.drop_zero];generalize vs1 7=v7 at*;generalize vs1 0=g0;generalize vs1 1=g1;generalize vs1 2=g2;generalize vs1 3=g3;generalize vs1 4=g4;generalize vs1 5=g5;generalize vs1 6=g6;have H0:=zd (And.intro hC.out q7);clear q7 hC;go_wp2;clear hbx hbx2 hdsa hdsb e1
  go_loopw [5,6] (fun v5 v6 wr=>∃ ix:Nat,v6=.int .i64 ix/\ix<=boundS A B/\Hid (Below w.heap.size w wr/\DfB wr w.heap.size A.of A.n (.slice An A.next.length cn) (.slice At A.tag.length ct)/\DfB wr (w.heap.size+1) B.of B.n (.slice Bn B.next.length dn) (.slice Bt B.tag.length dt)/\w.heap.size+2<=wr.heap.size/\PairR (w.heap.size+2) wr v5 (foundR A B ix))) (fun _ v6 _=>boundS A B+1 - (intOf v6).toNat)
  case atStart=>exact⟨0,rfl,Nat.zero_le _,zd ⟨H0.out.1.1,H0.out.1.2.1,H0.out.1.2.2.1,H0.out.1.2.2.2,by show PairR _ _ _ (startF A B);rw [HST.out];exact H0.out.2⟩⟩
  case round=>
   obtain⟨ix,rfl,hib,HH⟩:=hrel;obtain⟨wa,rfl⟩:∃ wa,wa=wr:=⟨_,rfl⟩;have hbd:=HBD.out;obtain⟨Ao,co,rfl⟩:=HH.out.2.2.2.2.form
   by_cases hp:ix<(foundR A B ix).length
   ·have hdl:decide ((ix:Int)<((foundR A B ix).length:Int))=true:=by simp;omega
    have hlb:=HFL.out ix
    have hki:IntKind.i64.wrap ((ix:Int)+1)=((ix+1:Nat):Int):=by rw [IntKind.wrap_i64];omega
    obtain⟨x,hx⟩:∃ x,(foundR A B ix)[ix]=x:=⟨_,rfl⟩
    have HX:=zd (show(foundR A B ix)[ix]? =some x/\A.InS x.1.1/\B.InS x.1.2 by
     have h1:=HFI.out ix _ (List.getElem_mem hp);rw [hx]at h1
     exact⟨by rw [List.getElem?_eq_getElem hp,hx],h1.2⟩)
    have HIB:=zd (show ix<boundS A B by omega);have HH0:=zd (show Below w.heap.size w wa/\DfB wa w.heap.size A.of A.n (.slice An A.next.length cn) (.slice At A.tag.length ct)/\DfB wa (w.heap.size+1) B.of B.n (.slice Bn B.next.length dn) (.slice Bt B.tag.length dt)/\w.heap.size+2<=wa.heap.size/\PairR (w.heap.size+2) wa (.slice Ao (foundR A B ix).length co) (foundR A B ix)from HH.out);clear hx hlb hib HH;go_wp2
    go_loopw [5,7] (fun v5 v7 wr=>∃ c:Nat,v7=.int .i64 c/\c<=256/\Hid (Below w.heap.size w wr/\DfB wr w.heap.size A.of A.n (.slice An A.next.length cn) (.slice At A.tag.length ct)/\DfB wr (w.heap.size+1) B.of B.n (.slice Bn B.next.length dn) (.slice Bt B.tag.length dt)/\w.heap.size+2<=wr.heap.size/\PairR (w.heap.size+2) wr v5 (alongQ noS (dlt A B) x (List.range c) (foundR A B ix)))) (fun _ v7 _=>256 - (intOf v7).toNat)
    case atStart=>exact⟨0,rfl,by decide,HH0⟩
    case round=>
     obtain⟨c,rfl,hc,HI⟩:=hrel;obtain⟨wz,rfl⟩:∃ wz,wz=wr:=⟨_,rfl⟩
     by_cases hcl:c<256
     ·have hdl2:decide ((c:Int)<256)=true:=by simp;omega
      have hkc:IntKind.i64.wrap ((c:Int)+1)=((c+1:Nat):Int):=by rw [IntKind.wrap_i64];omega
      have hku:IntKind.u8.wrap (c:Int)=(c:Int):=by rw [IntKind.wrap_u8];omega
      obtain⟨F,hF⟩:∃ F,alongQ noS (dlt A B) x (List.range c) (foundR A B ix)=F:=⟨_,rfl⟩
      have hpre:foundR A B ix<+:F:=by rw [<-hF];exact xzcf _ _ _
      have hFs:alongQ noS (dlt A B) x (List.range (c+1)) (foundR A B ix)=meetQ noS F (dlt A B x.1 c,x.2++[c]):=by
       rw [List.range_succ,xzec,hF]
      have hFl:F.length<=boundS A B/\(meetQ noS F (dlt A B x.1 c,x.2++[c])).length<=boundS A B:=by
       have e:foundR A B (ix+1)=alongQ noS (dlt A B) x (List.range 256) (foundR A B ix):=xzft HX.out.1
       have h1:alongQ noS (dlt A B) x (List.range (c+1)) (foundR A B ix)<+:foundR A B (ix+1):=by
        rw [e]
        have:List.range (c+1)=(List.range 256).take (c+1):=by rw [List.take_range,Nat.min_eq_left (by omega)]
        rw [this];exact xzju _ _ _ _
       have h2:=h1.length_le;rw [hFs]at h2;have h3:=HFL.out (ix+1);have h4:=(xzqd (no:=noS) (F:=F) (dlt A B x.1 c,x.2++[c])).length_le;omega
      have hiF:ix<F.length/\F[ix]? =some x:=by
       obtain⟨cc,hcc⟩:=hpre;have h1:=HX.out.1;have h2:=(List.getElem?_eq_some_iff.1 h1).1;exact⟨by rw [<-hcc,List.length_append];omega,by rw [<-hcc,List.getElem?_append_left h2];exact h1⟩
      have hpr:=HI.out.2.2.2.2;rw [hF]at hpr;obtain⟨bo,cox,rfl,hown,hblt,hcl2⟩:=hpr.at hiF.1
      have hxF:F[ix]=x:=by have:=hiF.2;rw [List.getElem?_eq_getElem hiF.1]at this;exact Option.some.inj this
      rw [hxF]at hcl2;have kx0:=hcl2 0 _ rfl;have kx1:=hcl2 1 _ rfl;have kx2:=hcl2 2 _ rfl;rw [Nat.add_zero]at kx0;obtain⟨q,hq⟩:∃ q,x=q:=⟨_,rfl⟩
      have HPK:=zd (fun(u:World) (hu:Below wz.heap.size wz u)=>show DfB u w.heap.size A.of A.n (.slice An A.next.length cn) (.slice At A.tag.length ct)/\DfB u (w.heap.size+1) B.of B.n (.slice Bn B.next.length dn) (.slice Bt B.tag.length dt)/\u.cell? ⟨bo,ix*3,none⟩=some (.int .i64 x.1.1)/\u.cell? ⟨bo,ix*3+1,none⟩=some (.int .i64 x.1.2)/\u.cell? ⟨bo,ix*3+2,none⟩=some (.string (txB x.2))from
       ⟨HI.out.2.1.step hu,HI.out.2.2.1.step hu,(hu.cell (p:=⟨bo,ix*3,none⟩) hblt).trans kx0,(hu.cell (p:=⟨bo,ix*3+1,none⟩) hblt).trans kx1,(hu.cell (p:=⟨bo,ix*3+2,none⟩) hblt).trans kx2⟩)
      have HSA:=zd (fun(u:World) (hu:Below wz.heap.size wz u)=>HSA0.out x.1.1 c u (HI.out.1.trans (hu.mono HI.out.1.size)) hcl HX.out.2.1);have HSB:=zd (fun(u:World) (hu:Below wz.heap.size wz u)=>HSB0.out x.1.2 c u (HI.out.1.trans (hu.mono HI.out.1.size)) hcl HX.out.2.2);have HW:=zd (show Below w.heap.size w wz/\DfB wz w.heap.size A.of A.n (.slice An A.next.length cn) (.slice At A.tag.length ct)/\DfB wz (w.heap.size+1) B.of B.n (.slice Bn B.next.length dn) (.slice Bt B.tag.length dt)/\w.heap.size+2<=wz.heap.size/\PairR (w.heap.size+2) wz (.slice (some ⟨bo,0,none⟩) F.length cox) F from⟨HI.out.1,HI.out.2.1,HI.out.2.2.1,HI.out.2.2.2.1,hpr⟩);have HFF:=zd (And.intro hFs (And.intro hFl hiF.2));have HIF:=zd hiF.1
      have hii:decide ((ix:Int)<(F.length:Int))=true:=by simp;have:=hiF.1;omega
      rw [hq]at HPK HSA HSB HX;clear hpr hown hblt hcl2 kx0 kx1 kx2 hxF hiF hFl hFs hpre hF HI
      go_wp2_with fail
      refine xzaf 18 106 (fun u=>Hid (Below wz.heap.size wz u)) (fun _ u u'=>Below u.heap.size u u')
       (fun i v u=>match i with
        |0=>v=.agg da
        |1=>v=.slice (some ⟨bo,0,none⟩) F.length cox
        |2=>v=.int .i64 (ix:Nat)
        |3=>v=.pointer (some ⟨bo,ix*3,none⟩)
        |4=>v=.pointer (some ⟨bo,ix*3,none⟩)
        |5=>v=.int .i64 q.1.1
        |6=>v=.int .i64 (c:Nat)
        |7=>v=.int .u8 (c:Nat)
        |8=>v=.int .i64 (A.nx q.1.1 c)
        |9=>v=.agg db
        |10=>v=.slice (some ⟨bo,0,none⟩) F.length cox
        |11=>v=.int .i64 (ix:Nat)
        |12=>v=.pointer (some ⟨bo,ix*3,none⟩)
        |13=>v=.pointer (some ⟨bo,ix*3+1,none⟩)
        |14=>v=.int .i64 q.1.2
        |15=>v=.int .i64 (c:Nat)
        |16=>v=.int .u8 (c:Nat)
        |17=>v=.int .i64 (B.nx q.1.2 c)
        |_=>True) (by kernel_rfl) (by kernel_rfl) rfl (zd (Below.refl _ _).drew) ?_ ?_ ?_ ?_
      ·intro i u u' hix hC hr
       exact zd (hC.out.trans (hr.mono hC.out.size))
      ·intro i j v u u' hix hj hne hv hr
       match i,hix,hne,hv with
       |0,_,_,hv=>exact hv
       |1,_,_,hv=>exact hv
       |2,_,_,hv=>exact hv
       |3,_,_,hv=>exact hv
       |4,_,_,hv=>exact hv
       |5,_,_,hv=>exact hv
       |6,_,_,hv=>exact hv
       |7,_,_,hv=>exact hv
       |8,_,_,hv=>exact hv
       |9,_,_,hv=>exact hv
       |10,_,_,hv=>exact hv
       |11,_,_,hv=>exact hv
       |12,_,_,hv=>exact hv
       |13,_,_,hv=>exact hv
       |14,_,_,hv=>exact hv
       |15,_,_,hv=>exact hv
       |16,_,_,hv=>exact hv
       |17,_,_,hv=>exact hv
       |i+18,hix,_,_=>omega
      ·intro i hix vs u hC hw oq ho
       match i,hix,hw,ho with
       |0,_,hw,ho=>
        simp only [zq,zh]at ho;subst ho;refine⟨rfl,?_⟩;clear hw;simp only [xzaa,tmpsTo];rw [xzah 28 (.tmp 2) _ rfl rfl (HLA.out u (HPK.out u hC.out).1)];exact xzab (Below.refl _ _) rfl
       |1,_,hw,ho=>
        simp only [zq,zh]at ho;subst ho;refine⟨rfl,?_⟩;clear hw;simp only [xzaa,tmpsTo,putT,zr];go_simp;exact xzab (Below.refl _ _) rfl
       |2,_,hw,ho=>
        simp only [zq,zh]at ho;subst ho;refine⟨rfl,?_⟩;clear hw;simp only [xzaa,tmpsTo,putT,zr];go_simp;exact xzab (Below.refl _ _) rfl
       |3,_,hw,ho=>
        have e1:vs 1=.slice (some ⟨bo,0,none⟩) F.length cox:=hw 1 (by omega) (by kernel_rfl);have e2:vs 2=.int .i64 (ix:Nat):=hw 2 (by omega) (by kernel_rfl);simp only [zq,zh]at ho;subst ho;refine⟨rfl,?_⟩;have hin:=HIF.out;clear hw;simp only [xzaa,tmpsTo,putT,zr];rw [e1,e2];clear e1 e2;go_simp;exact xzab (Below.refl _ _) rfl
       |4,_,hw,ho=>
        have e3:vs 3=.pointer (some ⟨bo,ix*3,none⟩):=hw 3 (by omega) (by kernel_rfl);simp only [zq,zh]at ho;subst ho;refine⟨rfl,?_⟩;clear hw;simp only [xzaa,tmpsTo,putT,zr];rw [e3];clear e3;go_simp;exact xzab (Below.refl _ _) rfl
       |5,_,hw,ho=>
        have e4:vs 4=.pointer (some ⟨bo,ix*3,none⟩):=hw 4 (by omega) (by kernel_rfl);simp only [zq,zh]at ho;subst ho;refine⟨rfl,?_⟩;have kq:=(HPK.out u hC.out).2.2.1;clear hw;simp only [xzaa,tmpsTo,putT,zr];rw [e4];clear e4;go_simp;exact xzab (Below.refl _ _) rfl
       |6,_,hw,ho=>
        simp only [zq,zh]at ho;subst ho;refine⟨rfl,?_⟩;clear hw;simp only [xzaa,tmpsTo,putT,zr];go_simp;exact xzab (Below.refl _ _) rfl
       |7,_,hw,ho=>
        have e6:vs 6=.int .i64 (c:Nat):=hw 6 (by omega) (by kernel_rfl);simp only [zq,zh]at ho;subst ho;refine⟨rfl,?_⟩;clear hw;simp only [xzaa,tmpsTo,putT,zr];rw [e6];clear e6;go_simp;exact xzab (Below.refl _ _) rfl
       |8,_,hw,ho=>
        have e0:vs 0=.agg da:=hw 0 (by omega) (by kernel_rfl);have e5:vs 5=.int .i64 q.1.1:=hw 5 (by omega) (by kernel_rfl);have e7:vs 7=.int .u8 (c:Nat):=hw 7 (by omega) (by kernel_rfl);simp only [zq,zh]at ho;subst ho;refine⟨rfl,?_⟩;clear hw;simp only [xzaa,tmpsTo,putT,zr];rw [e0,e5,e7];clear e0 e5 e7;go_simp;refine xzak ((HSA.out u hC.out).mono ?_);rintro e u' ⟨rfl,hbu⟩;exact⟨_,rfl,hbu,rfl⟩
       |9,_,hw,ho=>
        simp only [zq,zh]at ho;subst ho;refine⟨rfl,?_⟩;clear hw;simp only [xzaa,tmpsTo,putT,zr];rw [xzah 28 (.tmp 3) _ rfl rfl (HLB.out u (HPK.out u hC.out).2.1)];exact xzab (Below.refl _ _) rfl
       |10,_,hw,ho=>
        simp only [zq,zh]at ho;subst ho;refine⟨rfl,?_⟩;clear hw;simp only [xzaa,tmpsTo,putT,zr];go_simp;exact xzab (Below.refl _ _) rfl
       |11,_,hw,ho=>
        simp only [zq,zh]at ho;subst ho;refine⟨rfl,?_⟩;clear hw;simp only [xzaa,tmpsTo,putT,zr];go_simp;exact xzab (Below.refl _ _) rfl
       |12,_,hw,ho=>
        have e10:vs 10=.slice (some ⟨bo,0,none⟩) F.length cox:=hw 10 (by omega) (by kernel_rfl);have e11:vs 11=.int .i64 (ix:Nat):=hw 11 (by omega) (by kernel_rfl);simp only [zq,zh]at ho;subst ho;refine⟨rfl,?_⟩;have hin:=HIF.out;clear hw;simp only [xzaa,tmpsTo,putT,zr];rw [e10,e11];clear e10 e11;go_simp;exact xzab (Below.refl _ _) rfl
       |13,_,hw,ho=>
        have e12:vs 12=.pointer (some ⟨bo,ix*3,none⟩):=hw 12 (by omega) (by kernel_rfl);simp only [zq,zh]at ho;subst ho;refine⟨rfl,?_⟩;clear hw;simp only [xzaa,tmpsTo,putT,zr];rw [e12];clear e12;go_simp;exact xzab (Below.refl _ _) rfl
       |14,_,hw,ho=>
        have e13:vs 13=.pointer (some ⟨bo,ix*3+1,none⟩):=hw 13 (by omega) (by kernel_rfl);simp only [zq,zh]at ho;subst ho;refine⟨rfl,?_⟩;have kq:=(HPK.out u hC.out).2.2.2.1;clear hw;simp only [xzaa,tmpsTo,putT,zr];rw [e13];clear e13;go_simp;exact xzab (Below.refl _ _) rfl
       |15,_,hw,ho=>
        simp only [zq,zh]at ho;subst ho;refine⟨rfl,?_⟩;clear hw;simp only [xzaa,tmpsTo,putT,zr];go_simp;exact xzab (Below.refl _ _) rfl
       |16,_,hw,ho=>
        have e15:vs 15=.int .i64 (c:Nat):=hw 15 (by omega) (by kernel_rfl);simp only [zq,zh]at ho;subst ho;refine⟨rfl,?_⟩;clear hw;simp only [xzaa,tmpsTo,putT,zr];rw [e15];clear e15;go_simp;exact xzab (Below.refl _ _) rfl
       |17,_,hw,ho=>
        have e9:vs 9=.agg db:=hw 9 (by omega) (by kernel_rfl);have e14:vs 14=.int .i64 q.1.2:=hw 14 (by omega) (by kernel_rfl);have e16:vs 16=.int .u8 (c:Nat):=hw 16 (by omega) (by kernel_rfl);simp only [zq,zh]at ho;subst ho;refine⟨rfl,?_⟩;clear hw;simp only [xzaa,tmpsTo,putT,zr];rw [e9,e14,e16];clear e9 e14 e16;go_simp;refine xzak ((HSB.out u hC.out).mono ?_);rintro e u' ⟨rfl,hbu⟩;exact⟨_,rfl,hbu,rfl⟩
       |i+18,hix,_,_=>omega
      intro vs2 u hC hV;have q8:vs2 8=.int .i64 (A.nx q.1.1 c):=hV 8 (by omega);have q17:vs2 17=.int .i64 (B.nx q.1.2 c):=hV 17 (by omega);clear hV;subst hq;simp only [xzaa,tmpsTo,putT,zr,List.drop_succ_cons,List.drop_zero];rw [q8,q17];clear q8 q17;generalize vs2 0=g0;generalize vs2 1=g1;generalize vs2 2=g2;generalize vs2 3=g3;generalize vs2 4=g4;generalize vs2 5=g5;generalize vs2 6=g6;generalize vs2 7=g7;generalize vs2 9=g9;generalize vs2 10=g10;generalize vs2 11=g11;generalize vs2 12=g12;generalize vs2 13=g13;generalize vs2 14=g14;generalize vs2 15=g15;generalize vs2 16=g16;have HW2:=zd (show Below w.heap.size w u/\DfB u w.heap.size A.of A.n (.slice An A.next.length cn) (.slice At A.tag.length ct)/\DfB u (w.heap.size+1) B.of B.n (.slice Bn B.next.length dn) (.slice Bt B.tag.length dt)/\w.heap.size+2<=u.heap.size/\PairR (w.heap.size+2) u (.slice (some ⟨bo,0,none⟩) F.length cox) F from⟨HW.out.1.trans (hC.out.mono HW.out.1.size),HW.out.2.1.step hC.out,HW.out.2.2.1.step hC.out,Nat.le_trans HW.out.2.2.2.1 hC.out.size,HW.out.2.2.2.2.step hC.out⟩);have hX1: -1<=A.nx x.1.1 c:=(nx_in HOK.out.1.wf x.1.1 c).1;have hY1: -1<=B.nx x.1.2 c:=(nx_in HOK.out.2.wf x.1.2 c).1;have hd:dlt A B x.1 c=(A.nx x.1.1 c,B.nx x.1.2 c):=rfl;have HTX:=zd (show x.2.length<=361201 from Nat.le_trans (xzmx ix x (List.mem_of_getElem? HX.out.1)) (Nat.le_trans (Nat.le_of_lt HIB.out) HBD.out))
      have HXF:=zd (show F[ix]'HIF.out=x from by have:=HFF.out.2.2;rw [List.getElem?_eq_getElem HIF.out]at this;exact Option.some.inj this);generalize A.nx x.1.1 c=X at*;generalize B.nx x.1.2 c=Y at*;have HM:=zd (show(seenQ (X,Y) F F.length=true->alongQ noS (dlt A B) x (List.range (c+1)) (foundR A B ix)=F)/\(seenQ (X,Y) F F.length=false->alongQ noS (dlt A B) x (List.range (c+1)) (foundR A B ix)=F++[((X,Y),x.2++[c])])by rw [HFF.out.1,hd];exact yzbv);have HLN:=zd (show F.length+1<=1073741824 by have:=HFF.out.2.1.1;have:=HBD.out;omega);have HCL:=zd (show c+1<=256 from hcl);clear HW HPK HSA HSB hC hd
      have hcz:(decide (X<0)=true/\decide (Y<0)=true/\noS (X,Y)=true)\/(decide (X<0)=true/\decide (Y<0)=false/\noS (X,Y)=false)\/(decide (X<0)=false/\True/\noS (X,Y)=false):=by
       rw [noS_lt hX1 hY1]
       cases decide (X<0)
       ·exact .inr (.inr ⟨rfl,trivial,rfl⟩)
       ·cases decide (Y<0)
        ·exact .inr (.inl ⟨rfl,rfl,rfl⟩)
        ·exact .inl ⟨rfl,rfl,rfl⟩
      clear hX1 hY1
      rcases hcz with⟨dx,dy,hs0⟩|⟨dx,dy,hs0⟩|⟨dx,dy,hs0⟩
      all_goals
       have HS0:=zd hs0;clear hs0;go_wp2;clear dx dy
       go_loopw [10,11] (fun v10 v11 wr=>∃ k:Nat,v11=.int .i64 k/\k<=F.length/\v10=.bool (seenQ (X,Y) F k)/\Hid (Below w.heap.size w wr/\DfB wr w.heap.size A.of A.n (.slice An A.next.length cn) (.slice At A.tag.length ct)/\DfB wr (w.heap.size+1) B.of B.n (.slice Bn B.next.length dn) (.slice Bt B.tag.length dt)/\w.heap.size+2<=wr.heap.size/\PairR (w.heap.size+2) wr (.slice (some ⟨bo,0,none⟩) F.length cox) F)) (fun _ v11 _=>F.length - (intOf v11).toNat)
       case atStart=>exact⟨0,rfl,Nat.zero_le _,by rw [xzxn,HS0.out],HW2⟩
       case round=>
        obtain⟨k,rfl,hkl,rfl,HI2⟩:=hrel;obtain⟨wn,rfl⟩:∃ wn,wn=wr:=⟨_,rfl⟩
        by_cases hk:k<F.length
        ·have hdl3:decide ((k:Int)<(F.length:Int))=true:=by simp;omega
         have hkk:IntKind.i64.wrap ((k:Int)+1)=((k+1:Nat):Int):=by rw [IntKind.wrap_i64];have:=HFF.out.2.1.1;have:=HBD.out;omega
         have hcs3:=(HI2.out.2.2.2.2.cellsAt hk).2.2;have hsc:=xzxo (s:=(X,Y)) hk;obtain⟨z,hz⟩:∃ z,F[k]=z:=⟨_,rfl⟩;rw [hz]at hcs3 hsc;obtain⟨⟨fx,fy⟩,ft⟩:=z;have kf0:=hcs3 0 _ rfl;have kf1:=hcs3 1 _ rfl;rw [Nat.add_zero]at kf0;clear hcs3 hz;have HK:=zd hk
         cases hs:seenQ (X,Y) F k with
         |true=>
          have HE:=zd (show seenQ (X,Y) F (k+1)=true by rw [hsc,hs];rfl);clear hsc kf0 kf1;go_wp2;exact⟨⟨k+1,rfl,HK.out,by rw [HE.out],HI2⟩,by have:=HK.out;simp [intOf];omega⟩
         |false=>
          have HE:=zd (show seenQ (X,Y) F (k+1)=(decide (fx=X)&&decide (fy=Y))by rw [hsc,hs,Bool.false_or];exact yzfp _ _ _);clear hsc
          by_cases hx0:fx=X
          ·by_cases hy0:fy=Y
           ·have d1:decide (fx=X)=true:=by simp [hx0]
            have d2:decide (fy=Y)=true:=by simp [hy0]
            have d1b:(fx==X)=true:=by simp [hx0]
            have d2b:(fy==Y)=true:=by simp [hy0]
            have HE2:=zd (show seenQ (X,Y) F (k+1)=true by rw [HE.out,d1,d2];rfl);clear hx0 hy0 HE;go_wp2;exact⟨⟨k+1,rfl,HK.out,by rw [HE2.out],HI2⟩,by have:=HK.out;simp [intOf];omega⟩
           ·have d1:decide (fx=X)=true:=by simp [hx0]
            have d2:decide (fy=Y)=false:=by simp [hy0]
            have d1b:(fx==X)=true:=by simp [hx0]
            have d2b:(fy==Y)=false:=by simp [hy0]
            have HE2:=zd (show seenQ (X,Y) F (k+1)=false by rw [HE.out,d1,d2];rfl);clear hx0 hy0 HE;go_wp2;exact⟨⟨k+1,rfl,HK.out,by rw [HE2.out],HI2⟩,by have:=HK.out;simp [intOf];omega⟩
          ·have d1:decide (fx=X)=false:=by simp [hx0]
           have d1b:(fx==X)=false:=by simp [hx0]
           have HE2:=zd (show seenQ (X,Y) F (k+1)=false by rw [HE.out,d1];rfl);clear hx0 HE;go_wp2;exact⟨⟨k+1,rfl,HK.out,by rw [HE2.out],HI2⟩,by have:=HK.out;simp [intOf];omega⟩
        ·have hdl3:decide ((k:Int)<(F.length:Int))=false:=by simp;omega
         obtain rfl:k=F.length:=by omega
         cases hs:seenQ (X,Y) F F.length with
         |true=>
          have HEc:=zd (show Below w.heap.size w wn/\DfB wn w.heap.size A.of A.n (.slice An A.next.length cn) (.slice At A.tag.length ct)/\DfB wn (w.heap.size+1) B.of B.n (.slice Bn B.next.length dn) (.slice Bt B.tag.length dt)/\w.heap.size+2<=wn.heap.size/\PairR (w.heap.size+2) wn (.slice (some ⟨bo,0,none⟩) F.length cox) (alongQ noS (dlt A B) x (List.range (c+1)) (foundR A B ix))from by rw [HM.out.1 hs];exact HI2.out);clear HI2;go_wp2;exact⟨⟨c+1,rfl,HCL.out,HEc⟩,by have:=HCL.out;simp [intOf];omega⟩
         |false=>
          have hM:=zd (HM.out.2 hs);have HN:=HI2;clear HI2 HM
          go_wp2_with fail
          refine xzaf 16 106 (fun u=>Hid (Below w.heap.size w u/\DfB u w.heap.size A.of A.n (.slice An A.next.length cn) (.slice At A.tag.length ct)/\DfB u (w.heap.size+1) B.of B.n (.slice Bn B.next.length dn) (.slice Bt B.tag.length dt)/\w.heap.size+2<=u.heap.size/\PairR (w.heap.size+2) u (.slice (some ⟨bo,0,none⟩) F.length cox) F)) (RQ (w.heap.size+2) bo (.slice (some ⟨bo,0,none⟩) F.length cox) F)
           (fun i v u=>match i with
            |0=>v=.slice (some ⟨bo,0,none⟩) F.length cox
            |1=>v=.int .i64 X
            |2=>v=.int .i64 Y
            |3=>v=.slice (some ⟨bo,0,none⟩) F.length cox
            |4=>v=.int .i64 (ix:Nat)
            |5=>v=.pointer (some ⟨bo,ix*3,none⟩)
            |6=>v=.pointer (some ⟨bo,ix*3+2,none⟩)
            |7=>v=.string (txB x.2)
            |8=>v=.int .i64 (c:Nat)
            |9=>v=.int .u8 (c:Nat)
            |10=>∃ g,v=.slice (some ⟨g,0,none⟩) 1 1/\g≠bo/\BlkIs u g 5 #[.int .u8 (c:Nat)]
            |11=>v=.string (txB [c])
            |12=>v=.string (txB (x.2++[c]))
            |13=>v=.agg #[.int .i64 X,.int .i64 Y,.string (txB (x.2++[c]))]
            |14=>∃ g,v=.slice (some ⟨g,0,none⟩) 1 1/\g≠bo/\BlkIs u g 42 #[.int .i64 X,.int .i64 Y,.string (txB (x.2++[c]))]
            |15=>PairR (w.heap.size+2) u v (F++[((X,Y),x.2++[c])])
            |_=>True) (by kernel_rfl) (by kernel_rfl) rfl (zd ⟨HN.out.1.drew,HN.out.2.1,HN.out.2.2.1,HN.out.2.2.2.1,HN.out.2.2.2.2⟩) ?_ ?_ ?_ ?_
          ·intro i u u' hix hC hr
           have hr:=hr.low hC.out.2.2.2.1;exact zd ⟨hC.out.1.trans (hr.1.mono (by have:=hC.out.1.size;omega)),hC.out.2.1.step1 hr.1 (by omega),hC.out.2.2.1.step1 hr.1 (by omega),Nat.le_trans hC.out.2.2.2.1 hr.1.size,hr.2.1 hC.out.2.2.2.2⟩
          ·intro i j v u u' hix hj hne hv hr
           match i,hix,hne,hv with
           |0,_,_,hv=>exact hv
           |1,_,_,hv=>exact hv
           |2,_,_,hv=>exact hv
           |3,_,_,hv=>exact hv
           |4,_,_,hv=>exact hv
           |5,_,_,hv=>exact hv
           |6,_,_,hv=>exact hv
           |7,_,_,hv=>exact hv
           |8,_,_,hv=>exact hv
           |9,_,_,hv=>exact hv
           |10,_,hne,hv=>
            obtain⟨g,e1,e2,e3⟩:=hv;exact⟨g,e1,e2,hr.blk e3 e2⟩
           |11,_,_,hv=>exact hv
           |12,_,_,hv=>exact hv
           |13,_,_,hv=>exact hv
           |14,_,hne,hv=>
            obtain⟨g,e1,e2,e3⟩:=hv;exact⟨g,e1,e2,hr.blk e3 e2⟩
           |15,_,hne,hv=>
            exact hv.step (hr.not15 (Ne.symm hne))
           |i+16,hix,_,_=>omega
          ·intro i hix vs u hC hw oq ho
           match i,hix,hw,ho with
           |0,_,hw,ho=>
            simp only [zq,zh]at ho;subst ho;refine⟨rfl,?_⟩;clear hw;simp only [xzaa,tmpsTo];go_simp;exact xzab (RQ.below (by decide) (Below.refl _ _)) rfl
           |1,_,hw,ho=>
            simp only [zq,zh]at ho;subst ho;refine⟨rfl,?_⟩;clear hw;simp only [xzaa,tmpsTo,putT,zr];go_simp;exact xzab (RQ.below (by decide) (Below.refl _ _)) rfl
           |2,_,hw,ho=>
            simp only [zq,zh]at ho;subst ho;refine⟨rfl,?_⟩;clear hw;simp only [xzaa,tmpsTo,putT,zr];go_simp;exact xzab (RQ.below (by decide) (Below.refl _ _)) rfl
           |3,_,hw,ho=>
            simp only [zq,zh]at ho;subst ho;refine⟨rfl,?_⟩;clear hw;simp only [xzaa,tmpsTo,putT,zr];go_simp;exact xzab (RQ.below (by decide) (Below.refl _ _)) rfl
           |4,_,hw,ho=>
            simp only [zq,zh]at ho;subst ho;refine⟨rfl,?_⟩;clear hw;simp only [xzaa,tmpsTo,putT,zr];go_simp;exact xzab (RQ.below (by decide) (Below.refl _ _)) rfl
           |5,_,hw,ho=>
            have e3:vs 3=.slice (some ⟨bo,0,none⟩) F.length cox:=hw 3 (by omega) (by kernel_rfl);have e4:vs 4=.int .i64 (ix:Nat):=hw 4 (by omega) (by kernel_rfl);simp only [zq,zh]at ho;subst ho;refine⟨rfl,?_⟩;have hin:=HIF.out;clear hw;simp only [xzaa,tmpsTo,putT,zr];rw [e3,e4];clear e3 e4;go_simp;exact xzab (RQ.below (by decide) (Below.refl _ _)) rfl
           |6,_,hw,ho=>
            have e5:vs 5=.pointer (some ⟨bo,ix*3,none⟩):=hw 5 (by omega) (by kernel_rfl);simp only [zq,zh]at ho;subst ho;refine⟨rfl,?_⟩;clear hw;simp only [xzaa,tmpsTo,putT,zr];rw [e5];clear e5;go_simp;exact xzab (RQ.below (by decide) (Below.refl _ _)) rfl
           |7,_,hw,ho=>
            have e6:vs 6=.pointer (some ⟨bo,ix*3+2,none⟩):=hw 6 (by omega) (by kernel_rfl);simp only [zq,zh]at ho;subst ho;refine⟨rfl,?_⟩;have kq0:=(hC.out.2.2.2.2.cellsAt HIF.out).2.2;rw [HXF.out]at kq0;have kq:=kq0 2 _ rfl;clear kq0;clear hw;simp only [xzaa,tmpsTo,putT,zr];rw [e6];clear e6;go_simp;exact xzab (RQ.below (by decide) (Below.refl _ _)) rfl
           |8,_,hw,ho=>
            simp only [zq,zh]at ho;subst ho;refine⟨rfl,?_⟩;clear hw;simp only [xzaa,tmpsTo,putT,zr];go_simp;exact xzab (RQ.below (by decide) (Below.refl _ _)) rfl
           |9,_,hw,ho=>
            have e8:vs 8=.int .i64 (c:Nat):=hw 8 (by omega) (by kernel_rfl);simp only [zq,zh]at ho;subst ho;refine⟨rfl,?_⟩;clear hw;simp only [xzaa,tmpsTo,putT,zr];rw [e8];clear e8;go_simp;exact xzab (RQ.below (by decide) (Below.refl _ _)) rfl
           |10,_,hw,ho=>
            have e9:vs 9=.int .u8 (c:Nat):=hw 9 (by omega) (by kernel_rfl);simp only [zq,zh]at ho;subst ho;refine⟨rfl,?_⟩;clear hw;simp only [xzaa,tmpsTo,putT,zr];rw [e9];clear e9;have hlo:=(hC.out.2.2.2.2.cellsAt HIF.out).1;go_simp;exact xzab (RQ.below (by decide) ((Below.refl _ _).alloc (Nat.le_refl _) _)) ⟨_,rfl,by omega,BlkIs.new _ _ _⟩
           |11,_,hw,ho=>
            obtain⟨g10,f10,_,h10⟩:=hw 10 (by omega) (by kernel_rfl);simp only [zq,zh]at ho;subst ho;refine⟨rfl,?_⟩;clear hw;simp only [xzaa,tmpsTo,putT,zr];rw [f10];clear f10;have hc1:=cvt1 u g10 c h10 hcl;go_simp;exact xzab (RQ.below (by decide) (Below.refl _ _)) rfl
           |12,_,hw,ho=>
            have e7:vs 7=.string (txB x.2):=hw 7 (by omega) (by kernel_rfl);have e11:vs 11=.string (txB [c]):=hw 11 (by omega) (by kernel_rfl);simp only [zq,zh]at ho;subst ho;refine⟨rfl,?_⟩;clear hw;simp only [xzaa,tmpsTo,putT,zr];rw [e7,e11];clear e7 e11;have hlt:=HTX.out;go_simp;rw [if_neg (by rw [xzwv,xzwv];simp only [List.length_cons,List.length_nil];omega),txB_app];exact xzab (RQ.below (by decide) (Below.refl _ _)) rfl
           |13,_,hw,ho=>
            have e1:vs 1=.int .i64 X:=hw 1 (by omega) (by kernel_rfl);have e2:vs 2=.int .i64 Y:=hw 2 (by omega) (by kernel_rfl);have e12:vs 12=.string (txB (x.2++[c])):=hw 12 (by omega) (by kernel_rfl);simp only [zq,zh]at ho;subst ho;refine⟨rfl,?_⟩;clear hw;simp only [xzaa,tmpsTo,putT,zr];rw [e1,e2,e12];clear e1 e2 e12;go_simp;exact xzab (RQ.below (by decide) (Below.refl _ _)) rfl
           |14,_,hw,ho=>
            have e13:vs 13=.agg #[.int .i64 X,.int .i64 Y,.string (txB (x.2++[c]))]:=hw 13 (by omega) (by kernel_rfl);simp only [zq,zh]at ho;subst ho;refine⟨rfl,?_⟩;clear hw;simp only [xzaa,tmpsTo,putT,zr];rw [e13];clear e13;have hlo:=(hC.out.2.2.2.2.cellsAt HIF.out).1;go_simp;exact xzab (RQ.below (by decide) ((Below.refl _ _).alloc (Nat.le_refl _) _)) ⟨_,rfl,by omega,BlkIs.new _ _ _⟩
           |15,_,hw,ho=>
            have e0:vs 0=.slice (some ⟨bo,0,none⟩) F.length cox:=hw 0 (by omega) (by kernel_rfl);obtain⟨g14,f14,_,h14⟩:=hw 14 (by omega) (by kernel_rfl);simp only [zq,zh]at ho;subst ho;refine⟨rfl,?_⟩;obtain⟨v',W',hrun,ho1,hg1,ho2,_⟩:=hC.out.2.2.2.2.push (x:=((X,Y),x.2++[c])) (b:=g14) (c:=1) h14 HLN.out hC.out.2.2.2.1;clear hw;simp only [xzaa,tmpsTo,putT,zr];rw [e0];clear e0;rw [f14];clear f14;rw [xzca (.tmp 89) (.tmp 103) 38 38 rfl rfl rfl hrun];exact xzab (RQ.last hg1 ho2 (hC.out.2.2.2.2.cellsAt HIF.out).2.1 hC.out.2.2.2.1) ho1
           |i+16,hix,_,_=>omega
          intro vs3 u3 hC3 hV3;have q15:PairR (w.heap.size+2) u3 (vs3 15) (F++[((X,Y),x.2++[c])]):=hV3 15 (by omega);clear hV3;simp only [xzaa,tmpsTo,putT,zr,List.drop_succ_cons,List.drop_zero];generalize vs3 15=v15 at*;generalize vs3 0=g0;generalize vs3 1=g1;generalize vs3 2=g2;generalize vs3 3=g3;generalize vs3 4=g4;generalize vs3 5=g5;generalize vs3 6=g6;generalize vs3 7=g7;generalize vs3 8=g8;generalize vs3 9=g9;generalize vs3 10=g10;generalize vs3 11=g11;generalize vs3 12=g12;generalize vs3 13=g13;generalize vs3 14=g14;have HEc:=zd (show Below w.heap.size w u3/\DfB u3 w.heap.size A.of A.n (.slice An A.next.length cn) (.slice At A.tag.length ct)/\DfB u3 (w.heap.size+1) B.of B.n (.slice Bn B.next.length dn) (.slice Bt B.tag.length dt)/\w.heap.size+2<=u3.heap.size/\PairR (w.heap.size+2) u3 v15 (alongQ noS (dlt A B) x (List.range (c+1)) (foundR A B ix))from by rw [hM.out];exact⟨hC3.out.1,hC3.out.2.1,hC3.out.2.2.1,hC3.out.2.2.2.1,q15⟩);clear q15 hC3 HN;go_wp2;exact⟨⟨c+1,rfl,HCL.out,HEc⟩,by have:=HCL.out;simp [intOf];omega⟩
     ·have hdl2:decide ((c:Int)<256)=false:=by simp;omega
      obtain rfl:c=256:=by omega
      have hki2:IntKind.i64.wrap ((ix:Int)+1)=((ix+1:Nat):Int):=by rw [IntKind.wrap_i64];have:=HIB.out;have:=HBD.out;omega
      have HE:=zd (show Below w.heap.size w wz/\DfB wz w.heap.size A.of A.n (.slice An A.next.length cn) (.slice At A.tag.length ct)/\DfB wz (w.heap.size+1) B.of B.n (.slice Bn B.next.length dn) (.slice Bt B.tag.length dt)/\w.heap.size+2<=wz.heap.size/\PairR (w.heap.size+2) wz u5 (foundR A B (ix+1))from by rw [xzft HX.out.1];exact HI.out);clear HI;go_wp2;exact⟨⟨ix+1,rfl,HIB.out,HE⟩,by have:=HIB.out;simp [intOf];omega⟩
   ·have hdl:decide ((ix:Int)<((foundR A B ix).length:Int))=false:=by simp;omega
    have HE:=zd (show PairR w.heap.size wa (.slice Ao (foundR A B ix).length co) (allF A B)by
     rw [<-xzxm HOK.out.1 HOK.out.2 (k:=ix) (by omega)]
     exact HH.out.2.2.2.2.low (by omega))
    go_wp2;go_ret;exact⟨_,rfl,HE.out,HH.out.1⟩
end Go.Proofs.YtdjpphjpnkfeiaaGreatDoor
