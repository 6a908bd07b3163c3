/-
 WHAT written ANSWERS: a tree as text, given what setText answers: a contract. Condition: the tree may be, and has at most 2^20 nodes.
-/
import Derived.Deep.RegionHeld3
import Derived.Test.YtgjfhbpmahgfcaaDoorQG12
import Derived.Test.YtgjfhbpmahgfcaaDoorQG13
import Derived.Test.YtgjfhbpmahgfcaaDoorQG04
namespace Go.Proofs.YtgjfhbpmahgfcaaDoor
section
open Go.RowKit
def joinB (ps:List ByteArray)(sep:ByteArray):ByteArray:=⟨(Lib.join (ps.map (·.data.toList)) sep.data.toList).toArray⟩
def decB (n:Int):ByteArray:=⟨(Lib.decDigits n.toNat).toArray⟩
def timesOf (lo hi:Int):ByteArray:=timesB (lo==0) (hi== -1) (lo==1) (hi==1) (hi != lo) (decide (hi>lo)) (decB lo) (decB hi)
mutual
def Tree.text (S:(Nat->Bool)->ByteArray):Tree->ByteArray
 | .node k m l lo hi=>if k=1 then S m else if k=2 then joinB (pieces S k l) ⟨#[]⟩else if k=3 then joinB (pieces S k l) ⟨#[124]⟩else if k=4 then joinB (pieces S k l) ⟨#[]⟩++timesOf lo hi else⟨#[40,41]⟩
def pieces (S:(Nat->Bool)->ByteArray)(k:Int):List Tree->List ByteArray
 |[]=>[]
 |t::r=>wrapB k t.kind (t.text S)::pieces S k r
end
theorem xzdr (S:(Nat->Bool)->ByteArray)(k:Int):∀ l:List Tree,(pieces S k l).length=l.length
 |[]=>by simp [pieces]
 |t::r=>by simp [pieces,xzdr S k r]
theorem xzds (S:(Nat->Bool)->ByteArray)(k:Int):∀ (l:List Tree) (i:Nat) (h:i<l.length) (h':i<(pieces S k l).length),(pieces S k l)[i]=wrapB k l[i].kind (l[i].text S)
 |t::r,0,_,_=>by simp [pieces]
 |t::r,i+1,h,h'=>by
  simp only [pieces,List.getElem_cons_succ];exact xzds S k r i _ _
def sizes (ps:List ByteArray):Nat:=(ps.map (fun p=>p.size+1)).sum
theorem xzhl (sep:List UInt8)(h:sep.length<=1):∀ r:List ByteArray,(Lib.joinTail sep (r.map (·.data.toList))).length<=sizes r
 |[]=>by simp [Lib.joinTail,sizes]
 |p::r=>by
  have:=xzhl sep h r;simp only [Lib.joinTail,sizes,List.map_cons,List.flatten_cons,List.length_append,List.sum_cons]at this ⊢
  have e:p.data.toList.length=p.size:=by rw [Array.length_toList];rfl
  omega
theorem xzhm (ps:List ByteArray)(sep:ByteArray)(h:sep.data.toList.length<=1):(Lib.join (ps.map (·.data.toList)) sep.data.toList).length<=sizes ps:=by
 cases ps with
 |nil=>simp [Lib.join_nil]
 |cons p r=>
  rw [List.map_cons,Lib.join_cons,List.length_append];have h1:=xzhl sep.data.toList h r
  have e:p.data.toList.length=p.size:=by rw [Array.length_toList];rfl
  simp only [sizes,List.map_cons,List.sum_cons]at h1 ⊢;omega
theorem xzbl (ps:List ByteArray)(sep:ByteArray)(h:sep.data.toList.length<=1):(joinB ps sep).size<=sizes ps:=by
 have:=xzhm ps sep h;unfold joinB
 simpa [ByteArray.size]using this
theorem xzjf (k k':Int)(s:ByteArray):(wrapB k k' s).size<=s.size+2:=by
 unfold wrapB
 split
 ·rw [ByteArray.size_append,ByteArray.size_append]
  have e1:(ByteArray.mk #[40]).size=1:=rfl;have e2:(ByteArray.mk #[41]).size=1:=rfl;omega
 ·omega
theorem xzjg:∀ n:Fin 100,(Lib.decDigits n.val).length<=2:=by decide+kernel
theorem xzbx {n:Int}(h:n<100):(decB n).size<=2:=by
 have:=xzjg ⟨n.toNat,by omega⟩;unfold decB
 simpa [ByteArray.size]using this
theorem xzdt {lo hi:Int}(h1:lo<100)(h2:hi<100):(timesOf lo hi).size<=8:=by
 have a:=xzbx h1;have b:=xzbx h2;have e1:(ByteArray.mk #[123]).size=1:=rfl;have e2:(ByteArray.mk #[125]).size=1:=rfl;have e3:(ByteArray.mk #[44]).size=1:=rfl;have e4:(ByteArray.mk #[42]).size=1:=rfl;have e5:(ByteArray.mk #[43]).size=1:=rfl;have e6:(ByteArray.mk #[63]).size=1:=rfl;unfold timesOf timesB
 split
 ·omega
 ·split
  ·omega
  ·split
   ·omega
   ·split
    ·split<;>simp only [ByteArray.size_append]<;>omega
    ·split<;>simp only [ByteArray.size_append]<;>omega
theorem xzhn {m:Nat->Bool}{l:List Tree}{lo hi:Int}(h:Tree.ok (.node 4 m l lo hi)=true):0<=lo/\lo<=64/\hi<=64/\(hi= -1\/lo<=hi)/\l.length=1:=by
 have h2:=(xzkf h).2;unfold okNode at h2
 split at h2
 ·cases h2
 ·rw [if_neg (by decide),if_neg (by decide),if_pos rfl]at h2
  have:=of_decide_eq_true h2;omega
mutual
theorem xzcy (S:(Nat->Bool)->ByteArray)(hS:∀ m,(S m).size<=4000):∀ T:Tree,T.ok=true->(T.text S).size+3<=4010*T.nodes
 | .node k m l lo hi=>fun h=>by
  have hl:=pieces_size S hS k l (by simp only [Tree.ok,Bool.and_eq_true]at h;exact h.1);unfold Tree.text;simp only [Tree.nodes];have e0:(ByteArray.mk #[40,41]).size=2:=rfl
  split
  ·have:=hS m;omega
  ·split
   ·have:=xzbl (pieces S k l) ⟨#[]⟩ (by simp);omega
   ·split
    ·have:=xzbl (pieces S k l) ⟨#[124]⟩ (by simp);omega
    ·split
     ·rename_i h4
      subst h4;have h1:=xzbl (pieces S 4 l) ⟨#[]⟩ (by simp);have h2:=xzhn h;have h3:=xzdt (lo:=lo) (hi:=hi) (by omega) (by omega);rw [ByteArray.size_append];omega
     ·omega
theorem pieces_size (S:(Nat->Bool)->ByteArray)(hS:∀ m,(S m).size<=4000)(k:Int):∀ l:List Tree,allOk l=true->sizes (pieces S k l)<=4010*nodesL l
 |[]=>fun _=>by simp [pieces,sizes,nodesL]
 |t::r=>fun h=>by
  simp only [allOk,Bool.and_eq_true]at h;have h1:=xzcy S hS t h.1;have h2:=pieces_size S hS k r h.2;have h3:=xzjf k t.kind (t.text S);simp only [pieces,sizes,List.map_cons,List.sum_cons,nodesL]at h2 ⊢;omega
end
def WrittenIs (S:(Nat->Bool)->ByteArray)(T:Tree)(v:Value)(w:World):Prop:=Calls Tryd.prog 54 #[v] w fun e w'=>e=.returned (.string (T.text S))/\Below w.heap.size w w'
def SubsIs (S:(Nat->Bool)->ByteArray)(k:Int)(l:List Tree)(sep:ByteArray)(v:Value)(w:World):Prop:=∀ u,Below w.heap.size w u->Calls Tryd.prog 65 #[v,.string sep] u fun e u'=>e=.returned (.string (joinB (pieces S k l) sep))/\Below u.heap.size u u'
set_option maxRecDepth 20000 in
set_option maxHeartbeats 4000000 in
theorem xzfu (S:(Nat->Bool)->ByteArray)(m:Nat->Bool)(l:List Tree)(lo hi:Int)(v:Value)(w:World)(hat:Tree.At w (.node 2 m l lo hi) v)(HSUBS:SubsIs S 2 l ⟨#[]⟩ v w):WrittenIs S (.node 2 m l lo hi) v w:=by
 obtain⟨A,n,c,rfl⟩:=hat.form;unfold WrittenIs SubsIs at*;unfold Tree.text;rw [if_neg (by decide),if_pos rfl];have hb1:Below w.heap.size w (w.alloc (.cells (reL 2 m A n c lo hi).toArray 34)):=(Below.refl _ _).alloc (Nat.le_refl _) _;have HC:=zd (HSUBS (w.alloc (.cells (reL 2 m A n c lo hi).toArray 34)) hb1);have HB:=zd hb1;clear hat HSUBS hb1;simp only [Tree.kind,Tree.set,Tree.lo,Tree.hi]at*;unfold reV reL at*;generalize joinB (pieces S 2 l) ⟨#[]⟩=z at*
 go_enter Tryd.func54,Tryd.ntmps54
 go_wp2_with(first|(go_at_call 65;go_must(refine HC.out.mono ?_);rintro e u ⟨rfl,hb2⟩;have HB2:=zd hb2;clear hb2))
 go_ret;exact⟨rfl,HB.out.trans (HB2.out.mono HB.out.size)⟩
set_option maxRecDepth 20000 in
set_option maxHeartbeats 4000000 in
theorem xzfv (S:(Nat->Bool)->ByteArray)(m:Nat->Bool)(l:List Tree)(lo hi:Int)(v:Value)(w:World)(hat:Tree.At w (.node 3 m l lo hi) v)(HSUBS:SubsIs S 3 l ⟨#[124]⟩ v w):WrittenIs S (.node 3 m l lo hi) v w:=by
 obtain⟨A,n,c,rfl⟩:=hat.form;unfold WrittenIs SubsIs at*;unfold Tree.text;rw [if_neg (by decide),if_neg (by decide),if_pos rfl];have hb1:Below w.heap.size w (w.alloc (.cells (reL 3 m A n c lo hi).toArray 34)):=(Below.refl _ _).alloc (Nat.le_refl _) _;have HC:=zd (HSUBS (w.alloc (.cells (reL 3 m A n c lo hi).toArray 34)) hb1);have HB:=zd hb1;clear hat HSUBS hb1;simp only [Tree.kind,Tree.set,Tree.lo,Tree.hi]at*;unfold reV reL at*;generalize joinB (pieces S 3 l) ⟨#[124]⟩=z at*
 go_enter Tryd.func54,Tryd.ntmps54
 go_wp2_with(first|(go_at_call 65;go_must(refine HC.out.mono ?_);rintro e u ⟨rfl,hb2⟩;have HB2:=zd hb2;clear hb2))
 go_ret;exact⟨rfl,HB.out.trans (HB2.out.mono HB.out.size)⟩
set_option maxRecDepth 20000 in
set_option maxHeartbeats 4000000 in
theorem xzek (S:(Nat->Bool)->ByteArray)(m:Nat->Bool)(l:List Tree)(lo hi:Int)(v:Value)(w:World)(hat:Tree.At w (.node 1 m l lo hi) v)
 (HS:∀ u,Below w.heap.size w u->Calls Tryd.prog 64 #[setV m] u fun e u'=>e=.returned (.string (S m))/\Below u.heap.size u u'):WrittenIs S (.node 1 m l lo hi) v w:=by
 obtain⟨A,n,c,rfl⟩:=hat.form;unfold WrittenIs;unfold Tree.text;rw [if_pos rfl];have hb1:Below w.heap.size w (w.alloc (.cells (reL 1 m A n c lo hi).toArray 34)):=(Below.refl _ _).alloc (Nat.le_refl _) _;have HC:=zd (HS (w.alloc (.cells (reL 1 m A n c lo hi).toArray 34)) hb1);have HB:=zd hb1;clear hat HS hb1;simp only [Tree.kind,Tree.set,Tree.lo,Tree.hi]at*;unfold setV at HC;unfold reV reL at*;generalize S m=z at*
 go_enter Tryd.func54,Tryd.ntmps54
 go_wp2_with(first|(go_at_call 64;go_must(refine HC.out.mono ?_);rintro e u ⟨rfl,hb2⟩;have HB2:=zd hb2;clear hb2))
 go_ret;exact⟨rfl,HB.out.trans (HB2.out.mono HB.out.size)⟩
set_option maxRecDepth 20000 in
set_option maxHeartbeats 4000000 in
theorem xzdu (S:(Nat->Bool)->ByteArray)(m:Nat->Bool)(l:List Tree)(lo hi:Int)(v:Value)(w:World)(hat:Tree.At w (.node 0 m l lo hi) v):WrittenIs S (.node 0 m l lo hi) v w:=by
 obtain⟨A,n,c,rfl⟩:=hat.form;unfold WrittenIs;unfold Tree.text;rw [if_neg (by decide),if_neg (by decide),if_neg (by decide),if_neg (by decide)];have hb1:Below w.heap.size w (w.alloc (.cells (reL 0 m A n c lo hi).toArray 34)):=(Below.refl _ _).alloc (Nat.le_refl _) _;have HB:=zd hb1;clear hat hb1;simp only [Tree.kind,Tree.set,Tree.lo,Tree.hi]at*;unfold reV reL at*
 go_enter Tryd.func54,Tryd.ntmps54
 go_wp2;go_ret;exact⟨rfl,HB.out⟩
set_option maxRecDepth 20000 in
set_option maxHeartbeats 4000000 in
theorem xzfw (S:(Nat->Bool)->ByteArray)(m:Nat->Bool)(l:List Tree)(lo hi:Int)(v:Value)(w:World)(hat:Tree.At w (.node 4 m l lo hi) v)(HSUBS:SubsIs S 4 l ⟨#[]⟩ v w)
 (ha:(joinB (pieces S 4 l) ⟨#[]⟩).size<=1099511627776)(hb:(timesOf lo hi).size<=8)
 (HT:∀ u:World,Calls Tryd.prog 66 #[.int .i64 lo,.int .i64 hi] u fun e u'=>e=.returned (.string (timesOf lo hi))/\u'=u):WrittenIs S (.node 4 m l lo hi) v w:=by
 obtain⟨A,n,c,rfl⟩:=hat.form;unfold WrittenIs SubsIs at*;unfold Tree.text;rw [if_neg (by decide),if_neg (by decide),if_neg (by decide),if_pos rfl];have hb1:Below w.heap.size w (w.alloc (.cells (reL 4 m A n c lo hi).toArray 34)):=(Below.refl _ _).alloc (Nat.le_refl _) _;have HC:=zd HSUBS;have HTM:=zd HT;have HB:=zd hb1;have HBX:=zd (BlkIs.new w 34 (reL 4 m A n c lo hi).toArray);clear hat HSUBS hb1 HT;simp only [Tree.kind,Tree.set,Tree.lo,Tree.hi]at*;unfold reV reL at*;generalize joinB (pieces S 4 l) ⟨#[]⟩=za at*;generalize timesOf lo hi=zb at*
 have hsum:za.size+zb.size<=9223372036854775807:=by omega
 have hsum2: ¬ 9223372036854775807<za.size+zb.size:=by omega
 go_enter Tryd.func54,Tryd.ntmps54
 go_wp2_with fail
 refine wp_region_held_drew (S:=fun u=>Below w.heap.size w u/\BlkIs u w.heap.size 34 #[.int .i64 4,.int .u64 (wd m 0:Nat),.int .u64 (wd m 1:Nat),.int .u64 (wd m 2:Nat),.int .u64 (wd m 3:Nat),.slice A n c,.int .i64 lo,.int .i64 hi]) (by kernel_rfl) ⟨HB.out.trans ((Below.refl _ _).drew),HBX.out.drew⟩ ?_;intro hS0
 refine wpAnyH_take (i:=0) (v:=.agg #[.int .i64 4,.int .u64 (wd m 0:Nat),.int .u64 (wd m 1:Nat),.int .u64 (wd m 2:Nat),.int .u64 (wd m 3:Nat),.slice A n c,.int .i64 lo,.int .i64 hi]) rfl (by kernel_rfl) (by kernel_rfl) (by kernel_rfl) (fun _ _ _ h=>h) (.inl ⟨rfl,fun u hu=>by
  obtain⟨e0,e1,e2,e3,e4,e5,e6,e7⟩:=hu.2.eight
  go_simp⟩) hS0 ?_
 refine wpAnyH_take (i:=2) (v:=.pointer (some ⟨w.heap.size,6,none⟩)) rfl (by kernel_rfl) (by kernel_rfl) (by kernel_rfl) (fun _ _ _ h=>h) (.inl ⟨rfl,fun u hu=>by
  go_simp⟩) hS0 ?_
 refine wpAnyH_take (i:=3) (v:=.int .i64 lo) rfl (by kernel_rfl) (by kernel_rfl) (by kernel_rfl) (fun _ _ _ h=>h) (.inl ⟨rfl,fun u hu=>by
  have e5:=hu.2.cell 6
  simp at e5
  go_simp⟩) hS0 ?_
 refine wpAnyH_take (i:=4) (v:=.pointer (some ⟨w.heap.size,7,none⟩)) rfl (by kernel_rfl) (by kernel_rfl) (by kernel_rfl) (fun _ _ _ h=>h) (.inl ⟨rfl,fun u hu=>by
  go_simp⟩) hS0 ?_
 refine wpAnyH_take (i:=5) (v:=.int .i64 hi) rfl (by kernel_rfl) (by kernel_rfl) (by kernel_rfl) (fun _ _ _ h=>h) (.inl ⟨rfl,fun u hu=>by
  have e5:=hu.2.cell 7
  simp at e5
  go_simp⟩) hS0 ?_
 generalize hU0:World.drew _=U0 at*;clear hU0;refine wpAnyH_ready (rs:=[1]) (by kernel_rfl) (by simp) ?_;refine AllReadyH.cons rfl (fun K hK=>?_) AllReadyH.nil;go_simp
 go_at_call 65
 refine(HC.out _ hS0.1).mono ?_;rintro e u1 ⟨rfl,hb1⟩;refine hK.out _ _ ⟨hS0.1.trans (hb1.mono hS0.1.size),hS0.2.step hb1⟩ (fun hS1=>?_);clear hK K hb1;refine wpAnyH_ready (rs:=[6]) (by kernel_rfl) (by simp) ?_;refine AllReadyH.cons rfl (fun K hK=>?_) AllReadyH.nil;go_simp
 go_at_call 66
 refine(HTM.out _).mono ?_;rintro e u2 ⟨rfl,rfl⟩;refine hK.out _ _ hS1 (fun hS2=>?_);clear hK K;refine wpAnyH_ready (rs:=[7]) (by kernel_rfl) (by simp) ?_;refine AllReadyH.cons rfl (fun K hK=>?_) AllReadyH.nil;go_simp;refine hK.out _ _ hS2 (fun hS3=>?_);clear hK K;refine wpAnyH_ready (rs:=[8]) (by kernel_rfl) (by simp) ?_;refine AllReadyH.cons rfl (fun K hK=>?_) AllReadyH.nil;go_simp;refine hK.out _ _ hS3 (fun hS4=>?_);clear hK K;refine wpAnyH_done (by kernel_rfl) ?_ _;go_wp2;go_ret;exact⟨rfl,hS4.1⟩
theorem xzkh (n:Int)(h0:0<=n)(h1:n<100)(u:World):Calls Tryd.prog 31 #[.int .i64 n] u fun e u'=>e=.returned (.string (decB n))/\u'=u:=by
 obtain⟨k,rfl⟩:∃ k:Nat,n=(k:Int):=⟨n.toNat,by omega⟩;exact strconv_Itoa_small k (by omega) u
theorem subs_is (S:(Nat->Bool)->ByteArray)(hS:∀ m,(S m).size<=4000)(k:Int)(m:Nat->Bool)(l:List Tree)(lo hi:Int)(sep:ByteArray)(hsep:sep.data.toList.length<=1)(v:Value)(w:World)(hat:Tree.At w (.node k m l lo hi) v)(hok:allOk l=true)(hn:nodesL l<=1048576)
 (IH:∀ t∈l,∀ (v:Value) (u:World),Below w.heap.size w u->t.At u v->WrittenIs S t v u):SubsIs S k l sep v w:=by
 intro u hu;have hlen:=xzca l;have hps:=pieces_size S hS k l hok;refine xzln k m l lo hi v u sep (hat.step hu) (l.map (fun t=>t.text S)) (by simp) (by omega) (fun s hs=>?_) (fun i h h' v' u' hu' ha=>?_) (pieces S k l) (xzdr S k l) (fun i h h' h2=>?_) ?_
 ·obtain⟨t,ht,rfl⟩:=List.mem_map.1 hs
  have h1:=xzcy S hS t (allOk_iff.1 hok t ht);have h2:=xzbw ht;omega
 ·have:=IH _ (List.getElem_mem h) v' u' (hu.trans (hu'.mono hu.size)) ha
  unfold WrittenIs at this;rw [List.getElem_map];exact this
 ·rw [List.getElem_map]
  exact xzds S k l i h h2
 ·have:=xzhm (pieces S k l) sep hsep
  omega
theorem xzfx (S:(Nat->Bool)->ByteArray)(hS:∀ m,(S m).size<=4000)(w0:World)(HS:∀ (m:Nat->Bool) (u:World),Below w0.heap.size w0 u->Calls Tryd.prog 64 #[setV m] u fun e u'=>e=.returned (.string (S m))/\Below u.heap.size u u'):
 ∀ (T:Tree) (v:Value) (w:World),Below w0.heap.size w0 w->T.At w v->T.ok=true->T.nodes<=1048576->WrittenIs S T v w:=by
 refine Tree.ind ?_;intro k m l lo hi IH v w hw hat hok hn;have hok2:=hok;simp only [Tree.ok,Bool.and_eq_true]at hok2
 have hnl:nodesL l<=1048576:=by simp only [Tree.nodes]at hn;omega
 have hps:=pieces_size S hS k l hok2.1
 have hsub:∀ sep:ByteArray,sep.data.toList.length<=1->SubsIs S k l sep v w:=fun sep hsep=>subs_is S hS k m l lo hi sep hsep v w hat hok2.1 hnl fun t ht v' u hu ha=>
  IH t ht v' u (hw.trans (hu.mono hw.size)) ha (allOk_iff.1 hok2.1 t ht) (Nat.le_trans (xzbw ht) hnl)
 have hk:=xzfr hok2.2
 by_cases h1:k=1
 ·subst h1;exact xzek S m l lo hi v w hat (fun u hu=>HS m u (hw.trans (hu.mono hw.size)))
 by_cases h2:k=2
 ·subst h2;exact xzfu S m l lo hi v w hat (hsub _ (by simp))
 by_cases h3:k=3
 ·subst h3;exact xzfv S m l lo hi v w hat (hsub _ (by simp))
 by_cases h4:k=4
 ·subst h4
  have ht:=xzhn hok;have hj:=xzbl (pieces S 4 l) ⟨#[]⟩ (by simp);refine xzfw S m l lo hi v w hat (hsub _ (by simp)) (by omega) (xzdt (by omega) (by omega)) (fun u=>?_);have ha:=xzbx (n:=lo) (by omega);have hb:=xzbx (n:=hi) (by omega);exact xziz lo hi (decB lo) (decB hi) (by omega) (by omega) u (fun u=>xzkh lo (by omega) (by omega) u) (fun u hne hgt=>xzkh hi (by have:=of_decide_eq_true hgt;omega) (by omega) u)
 ·obtain rfl:k=0:=by omega
  exact xzdu S m l lo hi v w hat
end
section
open Go.RowKit
def SeqIs (m:Nat->Bool)(w:World):Ending->World->Prop:=fun e w'=>
 ∃ B,e=.returned (.func (.func 98) #[] #[.pointer (some ⟨B,0,none⟩)])/\BlkIs w' B 30 #[.int .u64 (wd m 0:Nat),.int .u64 (wd m 1:Nat),.int .u64 (wd m 2:Nat),.int .u64 (wd m 3:Nat)]/\w.heap.size<=B/\Below w.heap.size w w'
theorem xzlo (m:Nat->Bool)(w:World):Calls Tryd.prog 89 #[setV m] w (SeqIs m w):=by
 go_enter Tryd.func89,Tryd.ntmps89
 go_wp2;go_ret;exact⟨w.heap.size,rfl,BlkIs.new _ _ _,Nat.le_refl _,(Below.refl _ _).alloc (Nat.le_refl _) _⟩
theorem xzho (n:Nat)(hn:1<=n)(B n₀:Nat)(hn0:2<n₀)(m:Nat->Bool)(w:World)(hbox:BlkIs w B 30 #[.int .u64 (wd m 0:Nat),.int .u64 (wd m 1:Nat),.int .u64 (wd m 2:Nat),.int .u64 (wd m 3:Nat)])(hT:Tab w):
 SeqStopsK Fence.wide n Tryd.prog 98 #[.pointer (some ⟨B,0,none⟩)] (fun x:B256=>#[.int .u8 (x.1:Nat)]) (Below n₀) (fun xs:List B256=>xs.map (fun x=>x.1)=mems m 256) (fun pre:List B256=>pre.map (fun x=>x.1)<+:mems m 256) 256 w:=
 fun l J Jx W hW _ _ hY h0=>xzlc n hn l B n₀ hn0 m J Jx hY W (hbox.step hW) (hT.step hW) h0
def nextS (m:Nat->Bool)(k:Int):Int:=match mems (sLess m (sBelow k)) 256 with|[]=> -1|b::_=>(b:Int)
theorem xzlp {w2 W W':World}{g:Nat}{t:TypeId}{a b c d:Value}(hx:BlkIs w2 g t #[a,b,c,d])
 (h:Below w2.heap.size w2 W/\W.cell? ⟨g,0,none⟩=some a/\W.cell? ⟨g,1,none⟩=some b/\W.cell? ⟨g,2,none⟩=some c/\W.cell? ⟨g,3,none⟩=some d)(hb:Below W.heap.size W W'):
 Below w2.heap.size w2 W'/\W'.cell? ⟨g,0,none⟩=some a/\W'.cell? ⟨g,1,none⟩=some b/\W'.cell? ⟨g,2,none⟩=some c/\W'.cell? ⟨g,3,none⟩=some d:=
 have hb2:=h.1.trans (hb.mono h.1.size);have hx2:=(hx.step hb2).four
 ⟨hb2,hx2.1,hx2.2.1,hx2.2.2.1,hx2.2.2.2.1⟩
theorem xzfc {w w':World}{g:Nat}{t:TypeId}{cs:Array Value}{row:Option Nat}(h:BlkIs w g t cs)(hg:w.grownBy w' row)(hr:∀ r,row=some r->∃ o:Obj,w.heap[r]? =some o/\o.isCells=false):BlkIs w' g t cs:=by
 refine(hg.block g h.lt (fun e=>?_)).trans h;obtain⟨o,ho,hn⟩:=hr g e.symm;unfold BlkIs at h;rw [h]at ho
 cases ho
 cases hn
theorem xzhp {w:World}{g:Nat}{t:TypeId}{x:Int}(h:BlkIs w g t #[.int .i64 x]):(loadVar 3 ⟨g,0,none⟩).run Tryd.prog w=.ok (.int .i64 x) w:=by
 have c:=h.cell 0
 simp at c
 go_simp
attribute [local go_sem] Oper.semAt_some
set_option maxRecDepth 100000 in
set_option maxHeartbeats 1000000 in
theorem xzhq (m:Nat->Bool)(k:Int)(hk:k<=9223372036854775807)(w:World)(hT:Tab w):
 Calls Tryd.prog 77 #[setV m,.int .i64 k] w fun e w'=>e=.returned (.int .i64 (nextS m k))/\Below w.heap.size w w':=by
 have HT:=zd hT;clear hT;refine(callsIn_wide (n:=3)).1 ?_;refine callsIn_of_wp_marks Tryd.func77 rfl trivial ?_ rfl;simp only [Tryd.ntmps77,List.size_toArray,List.length_cons,List.length_nil,Nat.reduceAdd,Nat.reduceSub,Array.replicate_succ,Array.replicate_zero,List.push_toArray,List.append_toArray,List.nil_append,List.cons_append];refine wpIn_wide.2 ?_;go_wp2;have hx0:=(BlkIs.new w 30 #[.int .u64 (wd m 0:Nat),.int .u64 (wd m 1:Nat),.int .u64 (wd m 2:Nat),.int .u64 (wd m 3:Nat)]).alloc (.cells #[.int .i64 0] 3);have hr0:=BlkIs.new (w.alloc (.cells #[.int .u64 (wd m 0:Nat),.int .u64 (wd m 1:Nat),.int .u64 (wd m 2:Nat),.int .u64 (wd m 3:Nat)] 30)) 3 #[.int .i64 0];rw [World.size_alloc]at hr0;have hB0:Below w.heap.size w ((w.alloc (.cells #[.int .u64 (wd m 0:Nat),.int .u64 (wd m 1:Nat),.int .u64 (wd m 2:Nat),.int .u64 (wd m 3:Nat)] 30)).alloc (.cells #[.int .i64 0] 3)):=((Below.refl _ _).alloc (Nat.le_refl _) _).alloc (by simp) _;generalize(w.alloc (.cells #[.int .u64 (wd m 0:Nat),.int .u64 (wd m 1:Nat),.int .u64 (wd m 2:Nat),.int .u64 (wd m 3:Nat)] 30)).alloc (.cells #[.int .i64 0] 3)=w2 at*;have HX:=zd hx0;have HR:=zd hr0;have HB:=zd hB0;clear hx0 hr0 hB0
 go_region_held3 (fun w'=>Below w2.heap.size w2 w'/\w'.cell? ⟨w.heap.size,0,none⟩=some (.int .u64 (wd m 0:Nat))/\w'.cell? ⟨w.heap.size,1,none⟩=some (.int .u64 (wd m 1:Nat))/\
  w'.cell? ⟨w.heap.size,2,none⟩=some (.int .u64 (wd m 2:Nat))/\w'.cell? ⟨w.heap.size,3,none⟩=some (.int .u64 (wd m 3:Nat)))
  ((first
    |exact xzlp HX.out (by assumption) hb1
    |exact⟨(Below.refl _ _).drew,HX.out.four.1,HX.out.four.2.1,HX.out.four.2.2.1,HX.out.four.2.2.2.1⟩))
  ((first
    |(go_at_call 91;go_must(refine(xzim _ (by omega) _).mono ?_);rintro e w1 ⟨rfl,hb1⟩)
    |(go_at_call 90;go_must(refine(xzkr _ _ _).mono ?_);rintro e w1 ⟨rfl,hb1⟩)
    |(go_at_call 89;go_must(refine(xzlo _ _).mono ?_);rintro e w1 ⟨B,rfl,hbox,hB0,hb1⟩)))
 have hB1:Below w2.heap.size w2 w1:=by
  have h:= ‹Below w2.heap.size w2 w1/\_›;exact h.1
 have hres:=HR.out.step hB1;have hBw:Below w.heap.size w w1:=HB.out.trans (hB1.mono HB.out.size);have hTab:=HT.out.step hBw;have HX1:=zd hbox;have HR1:=zd hres;have HB1:=zd hBw;have HT1:=zd hTab;have hpos:=HT.out.pos;clear ‹Below w2.heap.size w2 w1/\_› hbox hres hBw hTab hB1 hb1 hB0 HX HR HB HT;generalize hms:sLess m (sBelow k)=ms at*;have HMS:=zd hms;clear hms;go_wp2;refine(wpIn_wide (n:=3)).1 ?_
 refine wpIn_rangeFunc_ownF rfl (by omega) (gf:=98) (lb:=#[.pointer (some ⟨B,0,none⟩)]) rfl trivial (enters_of Tryd.func98 (by kernel_rfl) rfl)
  (xzho _ (by omega) B w.heap.size hpos ms w1 HX1.out HT1.out) belowK_t (belowK_b (by simpa using HB1.out.size)) (Below.refl _ _) (fun _=>rfl)
  (fun pre W=>pre=[]/\BlkIs W (w.heap.size+1) 3 #[.int .i64 0]/\Below w.heap.size w W)
  (fun c pre W=>c=.ret/\∃ x:B256,pre=[x]/\BlkIs W (w.heap.size+1) 3 #[.int .i64 (x.1:Nat)]/\Below w.heap.size w W) ?hI ?hIx ⟨rfl,HR1.out,HB1.out⟩
  (fun x=>{tmps:=#[setV m,.int .i64 k,.pointer (some ⟨w.heap.size,0,none⟩),undef,.pointer (some ⟨w.heap.size+1,0,none⟩),.int .u8 (x.1:Nat),setV m,.int .i64 k,setV (sBelow k),setV ms,.func (.func 98) #[] #[.pointer (some ⟨B,0,none⟩)],.int .u8 (x.1:Nat),undef,undef],defers:=[]}) ?assign ?body ?done ?stop
 case hI=>
  exact OwnFrom.and (Own.from (fun s A B row hs _ _=>hs) _) (OwnFrom.and (Own.from (fun s A B row hs hg hr=>xzfc hs hg hr) _) (ownFrom_below (Nat.le_refl _) HB1.out.size))
 case hIx=>
  rintro c s A A' row ⟨hc,x,hs,hb,hB⟩ hg hr;exact⟨hc,x,hs,xzfc hb hg (fun r e=>(hr r e).2),ownFrom_below (β:=Unit) (Nat.le_refl _) HB1.out.size () A A' row hB hg hr⟩
 case assign=>
  intro l x W K hK
  gi_wp2
  exact hK
 case body=>
  rintro l pre x W ⟨rfl,hc,hB⟩ _;obtain⟨c0,f0⟩:W.cell? ⟨w.heap.size+1,0,none⟩=some (.int .i64 0)/\W.frozen? ⟨w.heap.size+1,0,none⟩=false:=⟨hc.cell 0,hc.frozen 0⟩;have hx:=x.2
  gi_wp2
  exact⟨KeepsOthers.setCell _ _ _,rfl,x,rfl,by simpa using hc.put 0 (.int .i64 (x.1:Nat)),hB.setCell (p:=⟨w.heap.size+1,0,none⟩) (Nat.le_add_right _ _) _⟩
 case done=>
  rintro D xs W hD hS ⟨rfl,hc,hB⟩ hK;obtain⟨c0,f0⟩:W.cell? ⟨w.heap.size+1,0,none⟩=some (.int .i64 0)/\W.frozen? ⟨w.heap.size+1,0,none⟩=false:=⟨hc.cell 0,hc.frozen 0⟩;go_wp2;have hK':=(KeepsOthers.setCell W ⟨w.heap.size+1,0,none⟩ (.int .i64 (-1))).same D _ hK rfl;refine⟨by simp,.inl ⟨_,_,rfl,run_takeDeferred hK',?_⟩⟩
  have hb':BlkIs (W.setCell ⟨w.heap.size+1,0,none⟩ (.int .i64 (-1))) (w.heap.size+1) 3 #[.int .i64 (-1)]:=by simpa using hc.put 0 (.int .i64 (-1))
  have hb2:=xzfc hb' (grownBy_putObj' _ D (.deferred none)) (fun r e=>by cases e;exact⟨_,hK',rfl⟩);have hl:=xzhp hb2;refine⟨_,xzak (p:=4) (ty:=3) rfl rfl hl,?_,?_⟩
  ·unfold nextS;rw [HMS.out,<-hS];rfl
  ·exact(hB.setCell (p:=⟨w.heap.size+1,0,none⟩) (Nat.le_add_right _ _) _).trans (belowK_b (w:=w) (Nat.le_refl _) _ D _ _ (Nat.le_trans HB1.out.size hD) hK' rfl rfl)
 case stop=>
  rintro D c pre W hD hS ⟨rfl,x,rfl,hc,hB⟩ hK
  gi_wp2
  refine⟨by simp,.inl ⟨_,_,rfl,run_takeDeferred hK,?_⟩⟩;have hb2:=xzfc hc (grownBy_putObj' _ D (.deferred none)) (fun r e=>by cases e;exact⟨_,hK,rfl⟩);have hl:=xzhp hb2;refine⟨_,xzak (p:=4) (ty:=3) rfl rfl hl,?_,?_⟩
  ·obtain⟨r,hr⟩:=hS
   unfold nextS;rw [HMS.out,<-hr];rfl
  ·exact hB.trans (belowK_b (w:=w) (Nat.le_refl _) _ D _ _ (Nat.le_trans HB1.out.size hD) hK rfl rfl)
end
section
open Go.RowKit
theorem xzbd (m:Nat->Bool)(k:Int):nextS m k= -1\/ ∃ b:Nat,b<256/\m b=true/\k<=(b:Int)/\nextS m k=(b:Int):=by
 unfold nextS
 cases h:mems (sLess m (sBelow k)) 256 with
 |nil=>exact .inl rfl
 |cons b r=>
  refine .inr ⟨b,?_⟩
  have hb:b∈mems (sLess m (sBelow k)) 256:=by rw [h];simp
  unfold mems at hb;rw [List.mem_filter,List.mem_range]at hb;have h2:=hb.2;simp only [sLess,sBelow,Bool.and_eq_true,Bool.not_eq_true',decide_eq_false_iff_not]at h2;exact⟨hb.1,h2.1,by omega,rfl⟩
def upto (b:Int):Int:=if b<0 then 256 else b
def rangesFrom (m:Nat->Bool):Nat->Int->List (Int×Int)
 |0,_=>[]
 |f+1,lo=>if lo<0 then []else(lo,upto (nextS (sNot m) lo) - 1)::rangesFrom m f (nextS m (upto (nextS (sNot m) lo)))
def rangesOf (m:Nat->Bool):List (Int×Int):=rangesFrom m 257 (nextS m 0)
theorem upto_gt {m:Nat->Bool}{lo:Nat}(h:lo<256)(hm:m lo=true):(lo:Int)<upto (nextS (sNot m) (lo:Int))/\upto (nextS (sNot m) (lo:Int))<=256:=by
 unfold upto
 rcases xzbd (sNot m) (lo:Int)with e|⟨b,h1,h2,h3,e⟩
 ·rw [e];simp;omega
 ·rw [e,if_neg (by omega)]
  refine⟨?_,by omega⟩
  rcases Nat.lt_or_ge lo b with g|g
  ·omega
  ·have:b=lo:=by omega
   subst this
   simp [sNot,hm]at h2
theorem xzcz (m:Nat->Bool):∀ (f:Nat) (lo:Int),(rangesFrom m f lo).length<=f
 |0,_=>by simp [rangesFrom]
 |f+1,lo=>by
  unfold rangesFrom
  split
  ·simp
  ·have:=xzcz m f (nextS m (upto (nextS (sNot m) lo)))
   simp only [List.length_cons];omega
theorem xzlq (m:Nat->Bool):∀ (f:Nat) (lo:Int),0<f->0<=lo->0<(rangesFrom m f lo).length
 |f+1,lo,_,h=>by
  unfold rangesFrom;rw [if_neg (by omega)]
  simp
def leftR (x:Int):Nat:=if x<0 then 0 else(257 - x).toNat
attribute [local go_sem] Oper.semAt_some
set_option maxRecDepth 100000 in
set_option maxHeartbeats 4000000 in
theorem xzhr (l Bs:Nat)(m:Nat->Bool)(J:List (Int×Int)->World->Prop)(Jx:World->Prop)
 (hJ:∀ pre W W',J pre W->Below W.heap.size W W'->J pre W')(hbox:∀ pre W,J pre W->BlkIs W Bs 30 (set4 m).toArray/\Tab W)
 (hY:∀ pre (x:Int×Int) W,J pre W->pre.length<257->0<=x.1->x.1<=x.2->x.2<=255->YieldAt Fence.wide 1 Tryd.prog l #[.int .u8 x.1,.int .u8 x.2] W fun e W'=>(e=.returned (.bool true)/\J (pre++[x]) W')\/(e=.returned (.bool false)/\Jx W'))
 (W:World)(h0:J [] W):
 CallsIn Fence.wide 2 Tryd.prog 92 #[.func (.yield l) #[] #[],.pointer (some ⟨Bs,0,none⟩)] W fun e W'=>(∃ v,e=.returned v)/\(J (rangesOf m) W'\/Jx W'):=by
 have HJ:=zd hJ;have HB:=zd hbox;have HY:=zd hY;have H0:=zd h0;have HN:=zd (fun(m:Nat->Bool) (k:Int) (hk:k<=9223372036854775807) (u:World) (hT:Tab u)=>xzhq m k hk u hT);have HNOT:=zd (fun(u:World)=>not_any m u);obtain⟨c0,c1,c2,c3,_⟩:=(hbox _ _ h0).1.four;clear hJ hbox hY h0;refine callsIn_wide.2 ((callsIn_wide (n:=5)).1 ?_);refine callsIn_of_wp Tryd.func92 rfl trivial ?_ rfl;simp only [Tryd.ntmps92,List.size_toArray,List.length_cons,List.length_nil,Nat.reduceAdd,Nat.reduceSub,Array.replicate_succ,Array.replicate_zero,List.push_toArray,List.append_toArray,List.nil_append,List.cons_append];unfold setV at HN HNOT
 gi_wp2
 refine⟨trivial,?_⟩
 gi_at_call 77
 refine(callsIn_wide.2 (HN.out m 0 (by omega) W (HB.out _ _ H0.out).2)).mono ?_;rintro e w1 ⟨rfl,hb1⟩;have H1:=zd (HJ.out _ _ _ H0.out hb1);clear hb1 c0 c1 c2 c3
 gi_wp2
 gi_loopw [3] (fun s wr=>∃ (lo:Int) (f:Nat) (pre:List (Int×Int)),s=.int .i64 lo/\(lo= -1\/(0<=lo/\lo<=255))/\Hid ((0<=lo->m lo.toNat=true)/\J pre wr/\pre++rangesFrom m f lo=rangesOf m/\(lo<0\/256 - lo<=(f:Int)))) (fun s _=>leftR (intOf s))
 case atStart=>
  rcases xzbd m 0 with e|⟨b,h1,h2,h3,e⟩
  ·exact⟨nextS m 0,257,[],rfl,.inl e,zd ⟨fun h=>by omega,H1.out,rfl,.inl (by omega)⟩⟩
  ·refine⟨nextS m 0,257,[],rfl,.inr (by omega),zd ⟨fun h=>?_,H1.out,rfl,.inr (by omega)⟩⟩
   rw [e];exact h2
 case round=>
  obtain⟨lo,f,pre,rfl,hlo,HH⟩:=hrel
  by_cases hneg:lo<0
  ·have e0:decide (lo>=0)=false:=decide_eq_false (by omega)
   gi_wp2
   go_end0
   obtain⟨_,h2,h3,_⟩:=HH.out;refine⟨⟨_,rfl⟩,.inl ?_⟩
   have:rangesFrom m f lo=[]:=by
    cases f with
    |zero=>rfl
    |succ f=>unfold rangesFrom;rw [if_pos hneg]
   rw [this,List.append_nil]at h3;rw [<-h3];exact h2
  ·have e0:decide (lo>=0)=true:=decide_eq_true (by omega)
   obtain⟨n,rfl⟩:∃ n:Nat,lo=(n:Int):=⟨lo.toNat,by omega⟩;obtain⟨g1,g2,g3,g4⟩:=HH.out
   have hn:n<256:=by omega
   have hmn:m n=true:=g1 (by omega);obtain⟨u1,u2⟩:=upto_gt hn hmn;obtain⟨c0,c1,c2,c3,_⟩:=(HB.out _ _ g2).1.four;obtain⟨q,hq⟩:∃ q,q=nextS (sNot m) (n:Int):=⟨_,rfl⟩
   have hq1:q= -1\/(0<=q/\q<=255):=by
    rcases xzbd (sNot m) (n:Int)with e|⟨b,h1,h2,h3,e⟩
    ·exact .inl (hq.trans e)
    ·exact .inr (by omega)
   have HQ:=zd (And.intro hq (And.intro u1 u2));have HG:=zd (And.intro hmn (And.intro g2 (And.intro g3 g4)))
   have hpl:pre.length<257:=by
    have h1:=congrArg List.length g3;rw [List.length_append]at h1;have h2:=xzcz m 257 (nextS m 0);have h3:=xzlq m f (n:Int) (by omega) (by omega);unfold rangesOf at h1;omega
   clear g1 g2 g3 g4 u1 u2 hmn hq
   gi_wp2
   refine⟨trivial,?_⟩
   gi_at_call 93
   refine(callsIn_wide.2 (HNOT.out _)).mono ?_;rintro e w2 ⟨rfl,hb2⟩;have hj2:=HJ.out _ _ _ HG.out.2.1 hb2;have HJ2:=zd hj2;clear hb2 hj2 c0 c1 c2 c3
   gi_wp2
   refine⟨trivial,?_⟩
   gi_at_call 77
   refine(callsIn_wide.2 (HN.out (sNot m) (n:Int) (by omega) w2 (HB.out _ _ HJ2.out).2)).mono ?_;rintro e w3 ⟨rfl,hb3⟩;rw [<-HQ.out.1];have HJ3:=zd (HJ.out _ _ _ HJ2.out hb3);clear hb3
   rcases hq1 with hq1|hq1
   ·have eq0:decide (q<0)=true:=decide_eq_true (by omega)
    have hbh:upto q=256:=by unfold upto;rw [if_pos (by omega)]
    have hb1:=HQ.out.2;rw [<-HQ.out.1,hbh]at hb1
    have hw1:IntKind.u8.wrap (n:Int)=(n:Int):=by rw [IntKind.wrap_u8];omega
    have hw2:IntKind.u8.wrap (255)=255:=by rw [IntKind.wrap_u8];omega
    have hw3:IntKind.i64.wrap (255)=255:=by rw [IntKind.wrap_i64];omega
    obtain⟨fn,tmps,assign,body,hy,hR⟩:=YieldAt.anyN (m:=4) (HY.out pre ((n:Int),255) w3 HJ3.out hpl (by show(0:Int)<=(n:Int);omega) (by show(n:Int)<=255;omega) (by show 255<=255;omega));have HR:=zd hR;have HBB:=zd (And.intro hb1 hbh);clear hR hb1 hbh
    gi_wp2
    refine HR.out.mono ?_;rintro e w4 (⟨rfl,hj4⟩|⟨rfl,hx4⟩)
    ·obtain⟨d0,d1,d2,d3,_⟩:=(HB.out _ _ hj4).1.four
     have HJ4:=zd hj4;clear hj4 hy HR
     gi_wp2
     refine⟨trivial,?_⟩
     gi_at_call 77
     refine(callsIn_wide.2 (HN.out m 256 (by omega) w4 (HB.out _ _ HJ4.out).2)).mono ?_;rintro e w5 ⟨rfl,hb5⟩;have HJ5:=zd (HJ.out _ _ _ HJ4.out hb5);clear hb5 d0 d1 d2 d3
     gi_wp2
     obtain⟨g1,g2,g3,g4⟩:=HG.out;obtain⟨f',rfl⟩:∃ f',f=f'+1:=⟨f - 1,by omega⟩
     have hstep:(pre++[((n:Int),255)])++rangesFrom m f' (nextS m 256)=rangesOf m:=by
      rw [<-g3]
      conv=>rhs;unfold rangesFrom
      rw [if_neg (by omega),<-HQ.out.1,HBB.out.2,List.append_assoc]
      rfl
     have hbb:=HBB.out.1
     rcases xzbd m 256 with e|⟨b,h1,h2,h3,e⟩
     ·exact⟨⟨nextS m 256,f',_,rfl,.inl e,zd ⟨fun h=>by omega,HJ5.out,hstep,.inl (by omega)⟩⟩,by show leftR (nextS m (256))<leftR (n:Int);rw [e];unfold leftR;split<;>split<;>omega⟩
     ·refine⟨⟨nextS m 256,f',_,rfl,.inr (by omega),zd ⟨fun h=>?_,HJ5.out,hstep,.inr (by omega)⟩⟩,by show leftR (nextS m (256))<leftR (n:Int);rw [e];unfold leftR;split<;>split<;>omega⟩
      rw [e];exact h2
    ·have HX4:=zd hx4
     clear hx4 hy HR
     gi_wp2
     refine bodyPost_ret (results_none rfl _ _ _) rfl ?_;exact⟨⟨_,rfl⟩,.inr HX4.out⟩
   ·have eq0:decide (q<0)=false:=decide_eq_false (by omega)
    have hbh:upto q=q:=by unfold upto;rw [if_neg (by omega)]
    have hb1:=HQ.out.2;rw [<-HQ.out.1,hbh]at hb1
    have hw1:IntKind.u8.wrap (n:Int)=(n:Int):=by rw [IntKind.wrap_u8];omega
    have hw2:IntKind.u8.wrap (q - 1)=q - 1:=by rw [IntKind.wrap_u8];omega
    have hw3:IntKind.i64.wrap (q - 1)=q - 1:=by rw [IntKind.wrap_i64];omega
    obtain⟨fn,tmps,assign,body,hy,hR⟩:=YieldAt.anyN (m:=4) (HY.out pre ((n:Int),q - 1) w3 HJ3.out hpl (by show(0:Int)<=(n:Int);omega) (by show(n:Int)<=q - 1;omega) (by show q - 1<=255;omega));have HR:=zd hR;have HBB:=zd (And.intro hb1 hbh);clear hR hb1 hbh
    gi_wp2
    refine HR.out.mono ?_;rintro e w4 (⟨rfl,hj4⟩|⟨rfl,hx4⟩)
    ·obtain⟨d0,d1,d2,d3,_⟩:=(HB.out _ _ hj4).1.four
     have HJ4:=zd hj4;clear hj4 hy HR
     gi_wp2
     refine⟨trivial,?_⟩
     gi_at_call 77
     refine(callsIn_wide.2 (HN.out m q (by omega) w4 (HB.out _ _ HJ4.out).2)).mono ?_;rintro e w5 ⟨rfl,hb5⟩;have HJ5:=zd (HJ.out _ _ _ HJ4.out hb5);clear hb5 d0 d1 d2 d3
     gi_wp2
     obtain⟨g1,g2,g3,g4⟩:=HG.out;obtain⟨f',rfl⟩:∃ f',f=f'+1:=⟨f - 1,by omega⟩
     have hstep:(pre++[((n:Int),q - 1)])++rangesFrom m f' (nextS m q)=rangesOf m:=by
      rw [<-g3]
      conv=>rhs;unfold rangesFrom
      rw [if_neg (by omega),<-HQ.out.1,HBB.out.2,List.append_assoc]
      rfl
     have hbb:=HBB.out.1
     rcases xzbd m q with e|⟨b,h1,h2,h3,e⟩
     ·exact⟨⟨nextS m q,f',_,rfl,.inl e,zd ⟨fun h=>by omega,HJ5.out,hstep,.inl (by omega)⟩⟩,by show leftR (nextS m q)<leftR (n:Int);rw [e];unfold leftR;split<;>split<;>omega⟩
     ·refine⟨⟨nextS m q,f',_,rfl,.inr (by omega),zd ⟨fun h=>?_,HJ5.out,hstep,.inr (by omega)⟩⟩,by show leftR (nextS m q)<leftR (n:Int);rw [e];unfold leftR;split<;>split<;>omega⟩
      rw [e];exact h2
    ·have HX4:=zd hx4
     clear hx4 hy HR
     gi_wp2
     refine bodyPost_ret (results_none rfl _ _ _) rfl ?_;exact⟨⟨_,rfl⟩,.inr HX4.out⟩
end
end Go.Proofs.YtgjfhbpmahgfcaaDoor
