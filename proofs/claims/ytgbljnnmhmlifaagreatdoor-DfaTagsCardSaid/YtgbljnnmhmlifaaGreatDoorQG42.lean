/-
 THE SUBSETS RUN AS THE AUTOMATON DOES (pure): the state behind a text is the row of places behind it, its tag the automaton's. Condition: the automaton may be, and has not too many subsets.
-/
import Derived.Test.YtgbljnnmhmlifaaGreatDoorQG40
import Derived.Test.YtgbljnnmhmlifaaGreatDoorQG25
import Derived.Test.YtgbljnnmhmlifaaGreatDoorQG06
import Derived.Test.YtgbljnnmhmlifaaGreatDoorQG41
import Derived.Test.YtgbljnnmhmlifaaGreatDoorQG32
import Derived.Test.YtgbljnnmhmlifaaGreatDoorQG33
namespace Go.Proofs.YtgbljnnmhmlifaaGreatDoor
section
open Go.RowKit
def StandsX (L:List (List Int))(x:List Int)(e:Int):Prop:=(x=[]/\e= -1)\/(x≠[]/\∃ i:Nat,e=(i:Int)/\1<=i/\i<L.length/\L.getD i []=x)
theorem StandsX.more {L l:List (List Int)}{x:List Int}{e:Int}(h:StandsX L x e):StandsX (L++l) x e:=by
 rcases h with h|⟨h0,i,h1,h2,h3,h4⟩
 ·exact .inl h
 ·exact .inr ⟨h0,i,h1,h2,by rw [List.length_append];omega,by rw [xzcx _ _ _ h3];exact h4⟩
theorem xzud (L:List (List Int))(x:List Int)(hL:1<=L.length):StandsX (oneX L x).2 x (oneX L x).1:=by
 unfold oneX
 split
 ·rename_i h;exact .inl ⟨h,rfl⟩
 ·rename_i h
  split
  ·rename_i i hi
   have h1:=List.mem_of_find?_eq_some hi;have h2:=List.find?_some hi;rw [Bool.and_eq_true,decide_eq_true_eq,decide_eq_true_eq]at h2;exact .inr ⟨h,i,rfl,h2.1,List.mem_range.1 h1,h2.2⟩
  ·refine .inr ⟨h,L.length,rfl,hL,by simp,?_⟩
   rw [List.getD_eq_getElem?_getD];simp
theorem xzjf (N:Nf)(lb:Nat->Nat)(a:Nat)(L:List (List Int))(ha:a<L.length):∀ k c,c<k->StandsX (rowTo N lb a L k).2 (stepX N L a (lb c)) ((rowTo N lb a L k).1.getD c (-1))
 |0,c,h=>by omega
 |k+1,c,h=>by
  have hlen:=xzhi N lb a L k;obtain⟨l0,hpre⟩:=xzct N lb a L k;simp only [rowTo];rw [xzne N lb a L k (lb k) ha];obtain⟨l,hl⟩:=xzpb (rowTo N lb a L k).2 (stepX N L a (lb k))
  by_cases hc:c=k
  ·subst hc
   have:=xzud (rowTo N lb a L c).2 (stepX N L a (lb c)) (by rw [hpre,List.length_append];omega);rw [List.getD_eq_getElem?_getD,List.getElem?_append_right (by omega),hlen]
   simpa using this
  ·have ih:=xzjf N lb a L ha k c (by omega)
   rw [xzcx _ _ _ (by omega),hl];exact ih.more
theorem xzfb (N:Nf)(lb:Nat->Nat)(C:Nat):∀ n L R,subTo N lb C n=some (L,R)->L.getD 0 [0]=[]/\R.length<=L.length/\∀ i c,i<R.length->c<C->StandsX L (stepX N L i (lb c)) ((R.getD i []).getD c (-1))
 |0,L,R,h=>by
  simp only [subTo,zh,Prod.mk.injEq]at h;obtain⟨rfl,rfl⟩:=h;exact⟨rfl,by simp,fun i c hi=>by simp at hi⟩
 |n+1,L,R,h=>by
  simp only [subTo]at h
  cases hs:subTo N lb C n with
  |none=>rw [hs]at h;cases h
  |some p=>
   obtain⟨L0,R0⟩:=p;rw [hs]at h;obtain⟨g1,g2,g3⟩:=xzfb N lb C n L0 R0 hs;obtain⟨s1,s2,s3⟩:=xzbn N lb C n L0 R0 hs;simp only at h
   split at h
   ·rename_i hn
    split at h
    ·cases h
    ·simp only [zh,Prod.mk.injEq]at h
     obtain⟨rfl,rfl⟩:=h;obtain⟨l,hl⟩:=xzct N lb n L0 C
     have hR0:R0.length=n:=by omega
     refine⟨?_,?_,fun i c hi hc=>?_⟩
     ·rw [hl,xzcx _ _ _ (by omega)];exact g1
     ·rw [hl,List.length_append,List.length_append,List.length_singleton];omega
     ·rw [List.length_append,List.length_singleton]at hi
      have hx:stepX N (rowTo N lb n L0 C).2 i (lb c)=stepX N L0 i (lb c):=stepX_keep (by omega) hl;rw [hx]
      by_cases hin:i=n
      ·subst hin
       have:=xzjf N lb i L0 hn C c hc;rw [List.getD_eq_getElem?_getD (l:=R0++_),List.getElem?_append_right (by omega),hR0]
       simpa using this
      ·rw [xzcx _ _ _ (by omega),hl]
       exact(g3 i c (by omega) hc).more
   ·simp only [zh,Prod.mk.injEq]at h
    obtain⟨rfl,rfl⟩:=h;exact⟨g1,g2,g3⟩
where
 stepX_keep {N:Nf} {L L0 l:List (List Int)} {a b:Nat} (h:a<L0.length) (hl:L=L0++l):stepX N L a b=stepX N L0 a b:=by
  unfold stepX;rw [hl,xzcx _ _ _ h]
def dfN (N:Nf)(L R:List (List Int)):Df:=⟨ofN N,(clN N:Nat),R,tagsL N L⟩
theorem xzyz (N:Nf)(f:Nat->Bool){a b:Nat}(h:saysG N.sets a=saysG N.sets b):keepTo N.sets.length f N a=keepTo N.sets.length f N b:=by
 unfold keepTo
 congr 1
 apply List.filter_congr
 intro q hq;have hq:=List.mem_range.1 hq
 congr 1
 unfold Nf.setAt;rw [Int.toNat_natCast,List.getD_eq_getElem?_getD,List.getElem?_eq_getElem hq];exact(xzrz N.sets a b).1 h _ (List.getElem_mem hq)
theorem yzhs (N:Nf)(b:Nat)(hb:b<256):ofN N b<clN N/\lbN N (ofN N b)<256/\saysG N.sets (lbN N (ofN N b))=saysG N.sets b:=by
 have h1:ofN N b<clN N:=Nat.lt_of_lt_of_le (yzbm (saysG N.sets) b) (xzgh (saysG N.sets) (by omega));obtain⟨_,h2,h3,_⟩:=yzhg N h1;exact⟨h1,h2,xzrl h3⟩
theorem yzel {N:Nf}{L R:List (List Int)}(h:subZ N (lbN N) (clN N)=some (L,R))(i b:Nat)(hi:i<L.length)(hb:b<256):
 StandsX L (keepTo N.sets.length (marksS N (decide (i=0)) (L.getD i [])) N b) ((dfN N L R).nxt (i:Int) b):=by
 obtain⟨g1,g2,g3⟩:=xzfb _ _ _ _ _ _ h;obtain⟨s1,s2,s3⟩:=xzbn _ _ _ _ _ _ h;obtain⟨c1,c2,c3⟩:=yzhs N b hb;have:=g3 i (ofN N b) (by omega) c1;unfold stepX at this;rw [xzyz N _ c3]at this;exact this
theorem xzza {N:Nf}(hmi:MayIs N){L R:List (List Int)}(h:subZ N (lbN N) (clN N)=some (L,R))(s:ByteArray):∀ j,1<=j->StandsX L (atTo N s j) ((dfN N L R).goTo s j)
 |0,hj=>by omega
 |1,_=>by
  obtain⟨g1,_,_⟩:=xzfb _ _ _ _ _ _ h;obtain⟨s1,_,_⟩:=xzbn _ _ _ _ _ _ h;have:=yzel h 0 (b8 s 0) (by omega) (yzfh s 0)
  have e0:L.getD 0 []=[]:=by
   rw [List.getD_eq_getElem?_getD,List.getElem?_eq_getElem (by omega)]at g1 ⊢;exact g1
  rw [e0]at this
  have e:keepTo N.sets.length (marksS N (decide (0=0)) []) N (b8 s 0)=atTo N s 1:=by
   have hf:marksS N (decide (0=0)) []=marks0 N true:=by
    funext q
    unfold marksS markF
    simp
   show _=beginL N (b8 s 0)
   rw [xzsx N _ hmi.first,hf]
  rw [e]at this;exact this
 |j+2,_=>by
  have ih:=xzza hmi h s (j+1) (by omega)
  have e1:(dfN N L R).goTo s (j+2)=if(dfN N L R).goTo s (j+1)= -1 then -1 else(dfN N L R).nxt ((dfN N L R).goTo s (j+1)) (b8 s (j+1)):=rfl
  rw [xzqi N s (by omega),e1]
  rcases ih with⟨h1,h2⟩|⟨h0,i,h1,h2,h3,h4⟩
  ·rw [h1,h2,if_pos rfl,yzfi]
   exact .inl ⟨rfl,rfl⟩
  ·rw [h1,if_neg (by omega)]
   have:=yzel h i (b8 s (j+1)) h3 (yzfh s _);rw [h4]at this
   have e:keepTo N.sets.length (marksS N (decide (i=0)) (atTo N s (j+1))) N (b8 s (j+1))=keepTo N.sets.length (markF N (atTo N s (j+1))) N (b8 s (j+1)):=by
    have hf:marksS N (decide (i=0)) (atTo N s (j+1))=markF N (atTo N s (j+1)):=by
     funext q
     unfold marksS marks0;rw [decide_eq_false (by omega),Bool.false_and,Bool.false_or]
    rw [hf]
   rw [e]at this;exact this
theorem yzdg {N:Nf}{z:List Int}(hz:Kept N z):z=((List.range N.sets.length).filter (setOf z)).map fun(q:Nat)=>(q:Int):=by
 rcases hz with rfl|⟨f,b,rfl⟩
 ·have:((List.range N.sets.length).filter (setOf []))=[]:=List.filter_eq_nil_iff.2 fun q _=>by simp [setOf,hasI]
  rw [this];rfl
 ·conv=>lhs;unfold keepTo
  congr 1
  apply List.filter_congr
  intro q hq;have hq:=List.mem_range.1 hq;rw [Bool.eq_iff_iff];unfold setOf;rw [hasI_iff];unfold keepTo;rw [List.mem_map]
  constructor
  ·intro h;exact⟨q,List.mem_filter.2 ⟨List.mem_range.2 hq,h⟩,rfl⟩
  ·rintro⟨x,hx,e⟩
   obtain rfl:x=q:=by omega
   exact(List.mem_filter.1 hx).2
theorem yzdh {N:Nf}(hm:N.may=true){L R:List (List Int)}(h:subZ N (lbN N) (clN N)=some (L,R))(s:ByteArray):(dfN N L R).tagOf s=ranT N s:=by
 have hmi:=xzux hm;obtain⟨s1,s2,s3⟩:=xzbn _ _ _ _ _ _ h;have hdm:(dfN N L R).may=true:=xzyn hmi h
 have hne:(dfN N L R).next.isEmpty=false:=by
  show R.isEmpty=false
  cases e:R with
  |nil=>rw [e]at s3;simp at s3;omega
  |cons a r=>rfl
 have hrun:(dfN N L R).run s=(dfN N L R).goTo s s.size:=by unfold Df.run;rw [hdm,hne];rfl
 have htag:∀ i:Nat,i<L.length->(tagsL N L).getD i (-1)=if i=0 then N.empty else tagL N (L.getD i []):=fun i hi=>by
  unfold tagsL;rw [List.getD_eq_getElem?_getD,List.getElem?_map,List.getElem?_range hi];simp only [Option.map_some,Option.getD_some]
  split
  ·rfl
  ·rw [<-xzfu,hmi.rules]
   have hk:Kept N (L.getD i []):=by
    rw [List.getD_eq_getElem?_getD,List.getElem?_eq_getElem hi];exact xzft _ _ _ _ _ _ h _ (List.getElem_mem hi)
   rw [<-yzdg hk]
 unfold Df.tagOf ranT;rw [hrun,if_pos hm]
 by_cases h0:s.size=0
 ·rw [if_pos h0,h0]
  have:(dfN N L R).goTo s 0=0:=rfl;rw [this,if_neg (by decide)];have:=htag 0 (by omega);rw [if_pos rfl]at this;exact this
 ·rw [if_neg h0]
  rcases xzza hmi h s s.size (by omega)with⟨g1,g2⟩|⟨g0,i,g1,g2,g3,g4⟩
  ·rw [g2,if_pos rfl,g1];rfl
  ·rw [g1,if_neg (by omega)]
   have:=htag i g3;rw [if_neg (by omega),g4]at this;exact this
end
section
open Go.RowKit
def mkB (l:List UInt8):ByteArray:=⟨l.toArray⟩
theorem xzzb (l:List UInt8):(mkB l).data.toList=l:=by simp [mkB]
theorem xzpt (l:List UInt8):(mkB l).size=l.length:=by simp [mkB,ByteArray.size]
theorem yzht (s:ByteArray):mkB s.data.toList=s:=by
 apply ByteArray.ext
 simp [mkB]
theorem mkB_b8 (l:List UInt8){i:Nat}(h:i<l.length):b8 (mkB l) i=(l[i]).toNat:=by
 unfold b8;rw [dif_pos (by rw [xzpt];exact h)]
 rfl
def stepD (D:Df)(x:Int)(c:UInt8):Int:=if x= -1 then -1 else D.nxt x c.toNat
theorem xznv (D:Df):∀ e:List UInt8,e.foldl (stepD D) (-1)= -1
 |[]=>rfl
 |c::e=>by
  show e.foldl (stepD D) (stepD D (-1) c)= -1
  have:stepD D (-1) c= -1:=by unfold stepD;rw [if_pos rfl]
  rw [this];exact xznv D e
theorem xzsl (D:Df)(l:List UInt8):D.goTo (mkB l) l.length=l.foldl (stepD D) 0:=by
 have:∀ n,n<=l.length->D.goTo (mkB l) n=(l.take n).foldl (stepD D) 0:=by
  intro n
  induction n with
  |zero=>intro _;rfl
  |succ n ih=>
   intro hn;have ih:=ih (by omega);rw [List.take_succ_eq_append_getElem (by omega),List.foldl_append,<-ih]
   show(if D.goTo (mkB l) n= -1 then -1 else D.nxt (D.goTo (mkB l) n) (b8 (mkB l) n))=stepD D (D.goTo (mkB l) n) l[n]
   rw [mkB_b8 l (by omega)]
   rfl
 have:=this l.length (Nat.le_refl _)
 rwa [List.take_length]at this
theorem xzzc (D:Df)(s:ByteArray)(e:List UInt8):D.goTo (mkB (s.data.toList++e)) (s.size+e.length)=e.foldl (stepD D) (D.goTo s s.size):=by
 have h1:=xzsl D (s.data.toList++e);rw [List.length_append,xzmy,List.foldl_append,<-xzsl,yzht,xzmy]at h1;exact h1
theorem yzdi {D:Df}(h:MayD D){c:Nat}(hc:(c:Int)<D.n):∃ b,b<256/\D.of b=c:=by
 obtain⟨h1,h2⟩:=mayB_iff.1 h.cls;obtain⟨a,ha,hn⟩:=xzrm D.of (k:=c) 256 (by omega);exact⟨a,ha,by rw [h1 a ha];exact hn⟩
theorem lv_tag {D:Df}(h:MayD D){x:Int}(hl:Lv D x):∃ e:List UInt8,e.foldl (stepD D) x≠ -1/\D.tag.getD (e.foldl (stepD D) x).toNat (-1)≠ -1:=by
 induction hl with
 | @tag i h1 h2 h3=>exact⟨[],by show i≠ -1;omega,h3⟩
 | @step i x h1 h2 h3 _ ih=>
  obtain⟨e,he⟩:=ih;obtain⟨c,hc,hx⟩:=List.mem_iff_getElem.1 h3;have hrow:=h.rows _ (xzlj (i:=i.toNat) (by omega));obtain⟨b,hb,hof⟩:=yzdi h (c:=c) (by omega);refine⟨UInt8.ofNat b::e,?_⟩
  have hst:stepD D i (UInt8.ofNat b)=x:=by
   unfold stepD;rw [if_neg (by omega),UInt8.toNat_ofNat',Nat.mod_eq_of_lt hb];unfold Df.nxt;rw [hof,List.getD_eq_getElem?_getD (i:=c),List.getElem?_eq_getElem hc,hx];rfl
  rw [List.foldl_cons,hst];exact he
theorem xznw (D:Df)(s:ByteArray):D.tagOf s=if D.run s= -1 then -1 else D.tag.getD (D.run s).toNat (-1):=rfl
theorem yzhu {D:Df}(hm:D.may=true)(s:ByteArray):0<=(trimP D).run s↔ ∃ e:List UInt8,0<=D.tagOf (mkB (s.data.toList++e)):=by
 have h:=may_d hm;have ht:=xzsk h;have htm:=d_may ht
 constructor
 ·intro h0
  have hne:(trimP D).next.isEmpty=false:=by
   cases e:(trimP D).next.isEmpty with
   |false=>rfl
   |true=>unfold Df.run at h0;rw [htm,e]at h0;simp at h0
  have hrun:(trimP D).run s=(trimP D).goTo s s.size:=by unfold Df.run;rw [htm,hne];rfl
  have hl:Lv D 0:=by
   apply Classical.byContradiction
   intro hn;have hk:=xzsj hn
   have:(trimP D).next.isEmpty=true:=by unfold trimP;rw [hk];rfl
   rw [hne]at this;cases this
  rw [hrun,xzlm h hl]at h0
  have hk:D.goTo s s.size∈keptL D:=by
   apply Classical.byContradiction
   intro hn;rw [xzje hn]at h0;omega
  obtain⟨e,he1,he2⟩:=lv_tag h (kept_mem.1 hk).2;refine⟨e,?_⟩
  have hD:D.next.isEmpty=false:=by
   have:=hl.in
   cases e:D.next with
   |nil=>rw [e]at this;simp at this
   |cons a r=>rfl
  have hr:D.run (mkB (s.data.toList++e))=e.foldl (stepD D) (D.goTo s s.size):=by
   unfold Df.run;rw [hm,hD,xzpt,List.length_append,xzmy];simp only [Bool.not_false,Bool.and_self,if_true];exact xzzc D s e
  rw [xznw,hr,if_neg he1]
  have hin:(D.tag.getD (e.foldl (stepD D) (D.goTo s s.size)).toNat (-1))∈D.tag\/(D.tag.getD (e.foldl (stepD D) (D.goTo s s.size)).toNat (-1))= -1:=by
   rw [List.getD_eq_getElem?_getD]
   cases hx:D.tag[(e.foldl (stepD D) (D.goTo s s.size)).toNat]? with
   |none=>exact .inr rfl
   |some y=>exact .inl (List.mem_of_getElem? hx)
  rcases hin with hin|hin
  ·have:=(h.tag _ hin).1
   omega
  ·exact absurd hin he2
 ·rintro⟨e,he⟩
  rw [<-xznu hm,xznw]at he
  have hr:(trimP D).run (mkB (s.data.toList++e))≠ -1:=fun hx=>by rw [if_pos hx]at he;omega
  have hne:(trimP D).next.isEmpty=false:=by
   cases e':(trimP D).next.isEmpty with
   |false=>rfl
   |true=>exact absurd (by unfold Df.run;rw [htm,e'];rfl) hr
  have hr2:(trimP D).run (mkB (s.data.toList++e))=e.foldl (stepD (trimP D)) ((trimP D).goTo s s.size):=by
   unfold Df.run;rw [htm,hne,xzpt,List.length_append,xzmy];simp only [Bool.not_false,Bool.and_self,if_true];exact xzzc (trimP D) s e
  have hrun:(trimP D).run s=(trimP D).goTo s s.size:=by unfold Df.run;rw [htm,hne];rfl
  have hg:(trimP D).goTo s s.size≠ -1:=fun hx=>by rw [hr2,hx,xznv]at hr;exact hr rfl
  rw [hrun];exact(xzkn ht (by cases hx:(trimP D).next with|nil=>rw [hx]at hne;cases hne|cons a r=>simp) s _ hg).1
theorem yzdj {l:List Tree}(hok:∀ t∈l,t.ok=true)(h40:l.length<=40)(hp:sumN l<=2000){L R:List (List Int)}(h:subZ (buildN l) (lbN (buildN l)) (clN (buildN l))=some (L,R))(s:ByteArray):
 (dfN (buildN l) L R).tagOf s=whichI s.data.toList 0 l/\(trimP (dfN (buildN l) L R)).tagOf s=whichI s.data.toList 0 l/\(decide ((trimP (dfN (buildN l) L R)).run s>=0)=(l.any fun t=>t.begins s.data.toList (atP 0))):=by
 have hmay:=xzld l hok h40 (by rw [xzdq l hok];exact hp);have hdm:(dfN (buildN l) L R).may=true:=xzyn (xzux hmay) h
 have hta:∀ s,(dfN (buildN l) L R).tagOf s=whichI s.data.toList 0 l:=fun s=>(yzdh hmay h s).trans (yzbe l hok h40 hp s)
 refine⟨hta s,(xznu hdm s).trans (hta s),?_⟩;rw [Bool.eq_iff_iff,decide_eq_true_eq,List.any_eq_true];rw [show((trimP (dfN (buildN l) L R)).run s>=0)=(0<=(trimP (dfN (buildN l) L R)).run s)from rfl,yzhu hdm]
 constructor
 ·rintro⟨e,he⟩
  rw [hta,xzzb]at he
  rcases xzgg (s.data.toList++e) l 0 (by decide)with⟨h1,_⟩|⟨k,hk,h1,h2,_⟩
  ·omega
  ·exact⟨_,List.getElem_mem hk,(xzri (hok _ (List.getElem_mem hk)) _).2 ⟨e,h2⟩⟩
 ·rintro⟨t,ht,hb⟩
  obtain⟨e,he⟩:=(xzri (hok t ht) _).1 hb;refine⟨e,?_⟩;rw [hta,xzzb]
  rcases xzgg (s.data.toList++e) l 0 (by decide)with⟨_,h1⟩|⟨k,hk,h1,_,_⟩
  ·obtain⟨k,hk,rfl⟩:=List.mem_iff_getElem.1 ht
   rw [h1 k hk]at he;cases he
  ·omega
end
section
open Go.RowKit
attribute [local irreducible] FreeW
theorem put_dx (f:Nat->Nat)(n:Int)(vn vt v:Value):putV (dfF f n vn vt) 257 v=dfF f n v vt:=by
 funext i;unfold putV;by_cases h:i=257
 ·subst h;rfl
 ·rw [if_neg h];unfold dfF;simp only [if_neg h]
theorem put_dt (f:Nat->Nat)(n:Int)(vn vt v:Value):∀ i,i<259->putV (dfF f n vn vt) 258 v i=dfF f n vn v i:=by
 intro i hi;unfold putV;by_cases h:i=258
 ·subst h;rfl
 ·rw [if_neg h];unfold dfF
  by_cases h1:i<256
  ·simp only [if_pos h1]
  ·by_cases h2:i=256
   ·simp only [if_neg h1,if_pos h2]
   ·have h3:i=257:=by omega
    simp only [if_neg h1,if_neg h2,if_pos h3]
section
variable {W : World} {g : Nat} {t : TypeId} {f : Nat → Nat} {n : Int} {vn vt : Value}
theorem blk_dx (h:BlkIs W g t (dfC f n vn vt))(v:Value):BlkIs (W.setCell ⟨g,257,none⟩ v) g t (dfC f n v vt):=by
 have:=BlkF.put (h:BlkF W g t 259 (dfF f n vn vt)) 257 v;rw [put_dx]at this;exact this
theorem blk_dt (h:BlkIs W g t (dfC f n vn vt))(v:Value):BlkIs (W.setCell ⟨g,258,none⟩ v) g t (dfC f n vn v):=by
 have:=BlkF.put (h:BlkF W g t 259 (dfF f n vn vt)) 258 v;unfold BlkF at this;rw [xzao (put_dt f n vn vt v)]at this;exact this
end
end
section
open Go.RowKit
theorem IntsV.keep {W W':World}{l:List Int}{v:Value}(h:IntsV W l v)(hk:∀ b,v.ownBlock=some b->l≠[]->W'.heap[b]? =W.heap[b]?):IntsV W' l v:=by
 obtain⟨A,c,rfl,hc,hs⟩:=h;refine⟨A,c,rfl,hc,fun hne=>?_⟩;obtain⟨b,o,rfl,hlt,hg⟩:=hs hne;have e:=hk b rfl hne
 have hg':∀ (i:Nat) (h:i<l.length),W'.cell? ⟨b,o+i,none⟩=some (.int .i64 l[i]):=fun i hi=>(xzby e).trans (hg i hi)
 exact⟨b,o,rfl,World.block_lt_of_cell? W' ⟨b,o+0,none⟩ (hg' 0 (List.length_pos_iff.2 hne)),hg'⟩
def Rows0 (ρ:Nat->Nat)(W:World)(L:List (List Int))(hs:List Value):Prop:=
 hs.length=L.length/\∀ (i:Nat) (h:i<L.length),∃ v,hs[i]? =some v/\v.oneCell'=true/\IntsV W L[i] v/\∀ b,v.ownBlock=some b->L[i]≠[]->ρ b=0/\b<W.heap.size
theorem Rows0.keep {ρ:Nat->Nat}{W W':World}{L:List (List Int)}{hs:List Value}(h:Rows0 ρ W L hs)(hz:W.heap.size<=W'.heap.size)(hk:∀ b,b<W.heap.size->ρ b=0->W'.heap[b]? =W.heap[b]?):Rows0 ρ W' L hs:=
 ⟨h.1,fun i hi=>by
  obtain⟨v,h1,h2,h3,h4⟩:=h.2 i hi
  exact⟨v,h1,h2,h3.keep fun b hb hne=>hk b (h4 b hb hne).2 (h4 b hb hne).1,fun b hb hne=>⟨(h4 b hb hne).1,by have:=(h4 b hb hne).2;omega⟩⟩⟩
theorem Rows0.role {ρ ρ':Nat->Nat}{W:World}{L:List (List Int)}{hs:List Value}(h:Rows0 ρ W L hs)(hr:∀ b,b<W.heap.size->ρ b=0->ρ' b=0):Rows0 ρ' W L hs:=
 ⟨h.1,fun i hi=>by
  obtain⟨v,h1,h2,h3,h4⟩:=h.2 i hi
  exact⟨v,h1,h2,h3,fun b hb hne=>⟨hr b (h4 b hb hne).2 (h4 b hb hne).1,(h4 b hb hne).2⟩⟩⟩
theorem Rows0.push {ρ:Nat->Nat}{W:World}{L:List (List Int)}{hs:List Value}(h:Rows0 ρ W L hs){x:List Int}{v:Value}(h1:v.oneCell'=true)(h2:IntsV W x v)(h3:∀ b,v.ownBlock=some b->x≠[]->ρ b=0/\b<W.heap.size):Rows0 ρ W (L++[x]) (hs++[v]):=by
 refine⟨by simp [h.1],fun i hi=>?_⟩
 by_cases e:i<L.length
 ·rw [List.getElem_append_left e,List.getElem?_append_left (by rw [h.1];exact e)]
  exact h.2 i e
 ·have:i=L.length:=by simp at hi;omega
  subst this;rw [List.getElem_concat_length rfl];exact⟨v,by rw [<-h.1,List.getElem?_concat_length],h1,h2,h3⟩
theorem yzhv {W:World}{B b:Nat}{t:TypeId}{x:Value}(h:BlkIs W b t #[x])(hB:B<=b):W.ownsRow B t 1 (.slice (some ⟨b,0,none⟩) 1 1) 1 [x]:=
 ⟨rfl,.inr ⟨b,1,#[x],rfl,hB,h,Nat.le_refl _,by unfold maxLen;decide,rfl,rfl⟩⟩
theorem xzzd {W:World}{B:Nat}{ρ:Nat->Nat}{v:Value}{L:List (List Int)}{hs:List Value}(h:W.ownsRow B 26 1 v L.length hs)(hr:Rows0 ρ W L hs):RowsI W L v:=by
 rcases h.2 with⟨rfl,h0⟩|⟨g,cap,cur,rfl,h1,h2,h3,h4,_⟩
 ·obtain rfl:=List.eq_nil_of_length_eq_zero h0
  exact⟨none,0,rfl,⟨by simp,by simp⟩,fun hne=>absurd rfl hne⟩
 ·refine⟨_,cap,rfl,⟨h3,by unfold maxLen at h4;omega⟩,fun _=>⟨g,0,rfl,(Array.getElem?_eq_some_iff.1 h2).1,fun i hi=>?_⟩⟩
  obtain⟨v,e1,_,e3,_⟩:=hr.2 i hi;refine⟨v,?_,e3⟩;have:=World.ownsRow.cells (g:=g) h rfl i v e1;rw [Addr.add_lit]at this;exact this
theorem xzgo {B:Nat}{W:World}{v:Value}{l:List Int}(hown:RowI B W v l){b c:Nat}{x:Int}(hnew:W.cell? ⟨b,0,none⟩=some (.int .i64 x))(hl:l.length+1<=1073741824)(hB:B<=W.heap.size):
 ∃ v' W',(Builtin.append_ #[26,26] 26 #[v,.slice (some ⟨b,0,none⟩) 1 c]).run Tryz.prog W=.ok v' W'/\RowI B W' v' (l++[x])/\W.grownBy W' v.ownBlock/\RowI B W' v l/\(v'.ownBlock=v.ownBlock\/v'.ownBlock=some W.heap.size):=by
 obtain⟨i0,hi0,hz0,hz1,hz2⟩:=info_parts xzdh
 have hnw:∀ j u,[Value.int .i64 x][j]? =some u->W.cell? ((⟨b,0,none⟩:Addr).add j)=some u:=fun j u hu=>by
  cases j with
  |zero=>
   simp only [List.getElem?_cons_zero,zh]at hu;subst hu;rw [Addr.add_lit];exact hnew
  |succ j=>simp at hu
 have h1:∀ u∈[Value.int .i64 x],u.oneCell'=true:=fun u hu=>by rw [List.mem_singleton.1 hu];rfl
 obtain⟨v',W',hr,h2,h3,_,h4⟩:=run_append_own_at (P:=Tryz.prog) (w:=W) B 26 26 3 i0 _ 1 8 Tryz.underlying26 hi0 hz0 hz1 hz2 rfl (by decide) v l.length _ hown
  ⟨b,0,none⟩ 1 c [.int .i64 x] rfl hnw h1 (by unfold maxLen;omega) (by omega) hB
 refine⟨v',W',hr,?_,h3,xzcu (P:=Tryz.prog) Tryz.underlying26 hi0 hz0 hz1 hz2 hown rfl hnw h1 (by unfold maxLen;omega) (by omega) hr,h4⟩;unfold RowI;rw [List.map_append,List.length_append];exact h2
end
section
open Go.RowKit
attribute [local irreducible] FreeW
theorem ne_m1 (x:Nat):((x:Int) != -1)=true:=by rw [bne_iff_ne];omega
def renI (nums:List Int)(x:Int):Int:=if x= -1 then -1 else nums.getD x.toNat 0
def renF (r nums:List Int)(k:Nat):Nat->Value:=fun i=>if i<k then .int .i64 (renI nums (r.getD i 0))else .int .i64 0
theorem xzze (r nums:List Int)(k:Nat)(v:Value)(hv:v=.int .i64 (renI nums (r.getD k 0))):putV (renF r nums k) k v=renF r nums (k+1):=by
 subst hv
 funext i;unfold putV renF
 by_cases h:i=k
 ·subst h;rw [if_pos rfl,if_pos (by omega)]
 ·rw [if_neg h]
  by_cases h2:i<k
  ·rw [if_pos h2,if_pos (by omega)]
  ·rw [if_neg h2,if_neg (by omega)]
theorem xzzf (F:Nat->Value)(k:Nat)(u v:Value):putV (putV F k u) k v=putV F k v:=by
 funext i;unfold putV;split<;>rfl
theorem yzdk (r nums:List Int):(fun _=>Value.int .i64 0)=renF r nums 0:=by
 funext i;unfold renF;rw [if_neg (by omega)]
theorem yzhw {W:World}{g:Nat}{t:TypeId}{r nums:List Int}(h:BlkF W g t r.length (renF r nums r.length)):BlkF W g t r.length (intF (r.map (renI nums))):=by
 have e:cellsN r.length (renF r nums r.length)=cellsN r.length (intF (r.map (renI nums))):=xzao fun i hi=>by
  unfold renF intF;rw [if_pos hi,List.getD_eq_getElem?_getD,List.getD_eq_getElem?_getD,List.getElem?_map,List.getElem?_eq_getElem hi];rfl
 unfold BlkF at h ⊢;rw [<-e];exact h
set_option maxRecDepth 20000 in
set_option maxHeartbeats 8000000 in
theorem xzln (r nums:List Int)(v vn:Value)(w:World)(hv:IntsV w r v)(hn:IntsV w nums vn)(hr:∀ x∈r, -1<=x/\x<(nums.length:Int))(hl:r.length<=1048576):
 Calls Tryz.prog 54 #[v,vn] w fun e w'=>e=.returned (.slice (some ⟨w.heap.size,0,none⟩) r.length r.length)/\BlkF w' w.heap.size 3 r.length (intF (r.map (renI nums)))/\Below w.heap.size w w':=by
 obtain⟨A,c,rfl,hc,hs⟩:=hv;obtain⟨An,cn,rfl,hcn,hsn⟩:=hn;obtain⟨W1,hW1⟩:∃ W1,(w.alloc (.cells (cellsN r.length fun _=>.int .i64 0) 3))=W1:=⟨_,rfl⟩
 have hb1:Below w.heap.size w W1:=by rw [<-hW1];exact(Below.refl _ _).alloc (Nat.le_refl _) _
 have hx1:BlkF W1 w.heap.size 3 r.length (renF r nums 0):=by rw [<-hW1,<-yzdk];exact BlkIs.new w _ _
 have hmk:=xziq r.length (by omega) w;rw [hW1]at hmk;have HS:=zd hs;have HSN:=zd hsn;have HB:=zd (And.intro hb1 hx1);have HR:=zd hr;clear hs hsn hb1 hx1 hr hW1
 go_enter Tryz.func54,Tryz.ntmps54
 go_wp2
 go_loopw [6,7,13] (fun _ _ i wr=>∃ k:Nat,i=.int .i64 k/\k<=r.length/\Hid (Below w.heap.size w wr/\BlkF wr w.heap.size 3 r.length (renF r nums k))) (fun _ _ i _=>r.length - (intOf i).toNat)
 case atStart=>exact⟨0,rfl,Nat.zero_le _,HB⟩
 case round=>
  obtain⟨k,rfl,hk,HH⟩:=hrel;obtain⟨wz,rfl⟩:∃ wz,wz=wr:=⟨_,rfl⟩
  by_cases hp:k<r.length
  ·have hk1:IntKind.i64.wrap ((k:Int)+1)=((k+1:Nat):Int):=by rw [IntKind.wrap_i64];omega
   have hdl:decide ((k:Int)<(r.length:Int))=true:=by simp;omega
   obtain⟨b,o,rfl,hlt,hg⟩:=HS.out (by intro e;subst e;simp at hp);have hcell:=(HH.out.1.cell (p:=⟨b,o+k,none⟩) hlt).trans (hg k hp);have hc2:=BlkF.cell HH.out.2 hp;have hfz:=BlkIs.frozen HH.out.2 k;have hrk:=HR.out _ (List.getElem_mem hp)
   have hgd:r.getD k 0=r[k]:=by rw [List.getD_eq_getElem?_getD,List.getElem?_eq_getElem hp];rfl
   obtain⟨W2,hW2⟩:∃ W2,wz.setCell ⟨w.heap.size,k,none⟩ (.int .i64 (-1))=W2:=⟨_,rfl⟩
   have hb2:Below w.heap.size w W2:=by rw [<-hW2];exact HH.out.1.setCell (p:=⟨w.heap.size,k,none⟩) (Nat.le_refl _) _
   have hx2:BlkF W2 w.heap.size 3 r.length (putV (renF r nums k) k (.int .i64 (-1))):=by rw [<-hW2];exact HH.out.2.put _ _
   clear hg
   by_cases h1:r[k]= -1
   ·have HN:=zd (show Below w.heap.size w W2/\BlkF W2 w.heap.size 3 r.length (renF r nums (k+1))from⟨hb2,by rw [<-xzze r nums k (.int .i64 (-1)) (by rw [hgd,h1];rfl)];exact hx2⟩)
    rw [h1]at hcell;clear h1 hrk hgd hb2 hx2;go_wp2;exact⟨⟨k+1,rfl,hp,HN⟩,by simp [intOf]<;>omega⟩
   ·obtain⟨x,hx⟩:∃ x:Nat,r[k]=(x:Nat):=⟨r[k].toNat,by omega⟩
    have hxn:x<nums.length:=by omega
    obtain⟨bn,on,rfl,hltn,hgn⟩:=HSN.out (by intro e;subst e;simp at hxn);have hcelln:=(hb2.cell (p:=⟨bn,on+x,none⟩) hltn).trans (hgn x hxn);have e1:=ne_m1 x
    have i1:decide ((x:Int)<(nums.length:Int))=true:=by simp;omega
    have hc3:=BlkF.cell hx2 hp;have hfz3:=BlkIs.frozen hx2 k
    have HN:=zd (show Below w.heap.size w (W2.setCell ⟨w.heap.size,k,none⟩ (.int .i64 nums[x]))/\BlkF (W2.setCell ⟨w.heap.size,k,none⟩ (.int .i64 nums[x])) w.heap.size 3 r.length (renF r nums (k+1))from
     ⟨hb2.setCell (p:=⟨w.heap.size,k,none⟩) (Nat.le_refl _) _,by
      have:=hx2.put k (.int .i64 nums[x]);rw [xzzf,xzze r nums k _ (by rw [hgd,hx];unfold renI;rw [if_neg (by omega),Int.toNat_natCast,List.getD_eq_getElem?_getD,List.getElem?_eq_getElem hxn];rfl)]at this
      exact this⟩)
    rw [hx]at hcell;clear h1 hrk hgd hb2 hx2 hx hgn;generalize nums[x]=nx at*;go_wp2;exact⟨⟨k+1,rfl,hp,HN⟩,by simp [intOf]<;>omega⟩
  ·have hdl:decide ((k:Int)<(r.length:Int))=false:=by simp;omega
   obtain rfl:k=r.length:=by omega
   have HF:=zd (yzhw HH.out.2);go_wp2;go_ret;exact⟨rfl,HF.out,HH.out.1⟩
set_option maxRecDepth 20000 in
set_option maxHeartbeats 8000000 in
theorem xzzg (D:Df)(v:Value)(w:World)(h:DfAt w D v):
 Calls Tryz.prog 53 #[v] w fun e w'=>∃ v',e=.returned v'/\RowI w.heap.size w' v' (firstL D)/\(firstL D=[]->v'=.slice none 0 0)/\Below w.heap.size w w':=by
 obtain⟨vn,vt,rfl,hrn,hrt⟩:=h;obtain⟨W1,hbx,hsz,hb1,hx1⟩:=xzds D.of D.n vn vt w;have hd1:=DfB.of hx1;obtain⟨c256,c257,c258⟩:=hd1.cells;obtain⟨An,cn,rfl,hcn,_⟩:=hrn;have HB:=zd hb1;obtain⟨dc,hdc⟩:∃ dc,dfC D.of D.n (.slice An D.next.length cn) vt=dc:=⟨_,rfl⟩;rw [hdc]at hbx
 have hds:dc.size=259:=by rw [<-hdc];exact xzak _ _ _ _
 rw [hdc];clear hrt hb1 hx1 hd1 hdc
 by_cases hz:D.next.length=0
 ·have e1:((D.next.length:Int)==0)=true:=by simp [hz]
  have e1b:decide ((D.next.length:Int)=0)=true:=by simp [hz]
  have HN:=zd (show firstL D=[]by unfold firstL;rw [if_pos hz]);clear hz
  go_enter Tryz.func53,Tryz.ntmps53
  go_wp2;go_ret;exact⟨_,rfl,by rw [HN.out];exact World.ownsRow_nil _ _ _ _,fun _=>rfl,HB.out⟩
 ·have e1:((D.next.length:Int)==0)=false:=by simp;intro e;rw [e]at hz;exact hz rfl
  have e1b:decide ((D.next.length:Int)=0)=false:=by simp;intro e;rw [e]at hz;exact hz rfl
  have HN:=zd (show firstL D=[0]by unfold firstL;rw [if_neg hz]);obtain⟨W2,hW2⟩:∃ W2,W1.alloc (.cells #[.int .i64 0] 3)=W2:=⟨_,rfl⟩
  have HB2:=zd (show Below w.heap.size w W2/\RowI w.heap.size W2 (.slice (some ⟨W1.heap.size,0,none⟩) 1 1) [0]by
   rw [<-hW2]
   exact⟨HB.out.alloc HB.out.size _,yzhv (BlkIs.new W1 _ _) HB.out.size⟩)
  rw [hsz]at HB2;clear hz
  go_enter Tryz.func53,Tryz.ntmps53
  go_wp2;go_ret;exact⟨_,rfl,by rw [HN.out];exact HB2.out.2,fun e=>absurd (HN.out.symm.trans e) (by simp),HB2.out.1⟩
end
end Go.Proofs.YtgbljnnmhmlifaaGreatDoor
