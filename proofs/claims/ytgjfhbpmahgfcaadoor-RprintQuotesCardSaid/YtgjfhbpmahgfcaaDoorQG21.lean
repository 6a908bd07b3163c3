/-
 hackleref13's Reader ON A QUOTED TEXT: byte, must: contracts.
-/
import Derived.Deep.QuietTactic
import Derived.BigQuiet
import Derived.Lib.BufferRead
import Derived.Test.YtgjfhbpmahgfcaaDoorQG20
import Derived.Test.YtgjfhbpmahgfcaaDoorQG18
namespace Go.Proofs.YtgjfhbpmahgfcaaDoor
section
open Go.Shelf Go.RowKit
attribute [local irreducible] FreeW textFrame
def RdAt (b:Nat)(S:ByteArray)(p:Nat)(u:World):Prop:=BlkIs u b 61 #[.string S,.int .i64 p,.int .i64 0,.int .i64 0]
theorem RdAt.cells {b p:Nat}{S:ByteArray}{u:World}(h:RdAt b S p u):u.cell? ⟨b,0,none⟩=some (.string S)/\u.cell? ⟨b,1,none⟩=some (.int .i64 p)/\u.cell? ⟨b,2,none⟩=some (.int .i64 0)/\u.cell? ⟨b,3,none⟩=some (.int .i64 0):=
 ⟨by simpa using BlkIs.cell h 0,by simpa using BlkIs.cell h 1,by simpa using BlkIs.cell h 2,by simpa using BlkIs.cell h 3⟩
set_option maxRecDepth 100000 in
set_option maxHeartbeats 4000000 in
theorem xzkm (b p:Nat)(S:ByteArray)(w:World)(h:RdAt b S p w)(hp:p<S.size)(h1:32<=bt S p)(h2:bt S p<=126):Calls Tryd.prog 21 #[.pointer (some ⟨b,0,none⟩)] w fun e w'=>e=.returned (.int .u8 (bt S p:Nat))/\∃ m,w'=w.drewN m:=by
 have hix:∀ w,(Instr.index 9 (.string S) (.int .i64 p)).run Tryd.prog w=.ok (.int .u8 (bt S p:Nat)) w:=fun w=>xzjj 9 Tryd.underlying9 S p hp w
 have hge:decide ((p:Int)>=(S.size:Int))=false:=by simp;omega
 have h10:((bt S p:Int)==10)=false:=by simp;omega
 have hlo:decide ((bt S p:Int)<32)=false:=by simp;omega
 have hhi:decide ((bt S p:Int)>126)=false:=by simp;omega
 have hhi':decide ((126:Int)<(bt S p:Int))=false:=by simp;omega
 generalize bt S p=c at*;obtain⟨c0,c1,c2,c3⟩:=h.cells;clear h
 go_enter Tryd.func21,Tryd.ntmps21
 go_wp2_with fail
 go_quiet (fail)
 go_wp2_with fail
 go_quiet (fail)
 go_wp2_with fail
 go_quiet (fail)
 go_wp2;go_ret;exact⟨rfl,_,by rw [World.drewN_drewN,World.drewN_drewN]⟩
theorem RdAt.put {b p q:Nat}{S:ByteArray}{u:World}(h:RdAt b S p u):RdAt b S q (u.setCell ⟨b,1,none⟩ (.int .i64 q)):=by
 have:=BlkIs.put h 1 (.int .i64 q)
 simpa [RdAt]using this
def MuAt (b p j:Nat)(w u:World):Prop:=(j=0/\u=w)\/(j=1/\∃ m,u=(w.drewN m).setCell ⟨b,1,none⟩ (.int .i64 ((p+1:Nat):Int)))
set_option maxRecDepth 100000 in
set_option maxHeartbeats 4000000 in
theorem must_q (b p:Nat)(S:ByteArray)(w:World)(h:RdAt b S p w)(hp:p<S.size)(hS:S.size<=8589934592)(hq:bt S p=34):Calls Tryd.prog 20 #[.pointer (some ⟨b,0,none⟩),.string ⟨#[34]⟩] w fun e w'=>e=.returned (.tuple #[])/\∃ m,w'=(w.drewN m).setCell ⟨b,1,none⟩ (.int .i64 ((p+1:Nat):Int)):=by
 have HBY:=zd (fun(u:World) (hu:RdAt b S p u)=>xzkm b p S u hu hp (by omega) (by omega));rw [hq]at HBY
 have hk1:IntKind.i64.wrap ((p:Int)+1)=((p+1:Nat):Int):=by rw [IntKind.wrap_i64];omega
 have HR:=zd h;have H0:=zd (show MuAt b p 0 w w from .inl ⟨rfl,rfl⟩);clear h
 go_enter Tryd.func20,Tryd.ntmps20
 go_wp2_with fail
 go_loopw [4] (fun i wr=>∃ j:Nat,i=.int .i64 j/\j<=1/\Hid (MuAt b p j w wr)) (fun i _=>1 - (intOf i).toNat)
 case atStart=>exact⟨0,rfl,Nat.zero_le _,H0⟩
 case round=>
  obtain⟨j,rfl,hj,HH⟩:=hrel
  by_cases hj1:j=1
  ·subst hj1
   have HP:=zd (show ∃ m,wr=(w.drewN m).setCell ⟨b,1,none⟩ (.int .i64 ((p+1:Nat):Int))by
    rcases HH.out with⟨h,_⟩|⟨_,h⟩
    ·exact absurd h (by omega)
    ·exact h)
   go_wp2
   go_end0
   exact⟨rfl,HP.out⟩
  ·obtain rfl:j=0:=by omega
   obtain rfl:wr=w:=by
    rcases HH.out with⟨_,h⟩|⟨h,_⟩
    ·exact h
    ·exact absurd h (by omega)
   have hix:∀ w,(Instr.index 9 (.string ⟨#[34]⟩) (.int .i64 (0:Nat))).run Tryd.prog w=.ok (.int .u8 (bt ⟨#[34]⟩ 0:Nat)) w:=fun w=>xzjj 9 Tryd.underlying9 ⟨#[34]⟩ 0 (by decide) w
   have hne:((34:Int) != (((⟨#[34]⟩:ByteArray)[0]'(by decide)).toNat:Int))=false:=rfl;have hk0:IntKind.i64.wrap (((0:Nat):Int)+1)=((1:Nat):Int):=rfl;obtain⟨c0,c1,c2,c3⟩:=RdAt.cells HR.out;have fz:=BlkIs.frozen HR.out 1
   go_wp2_with fail
   go_quiet ((go_at_call 21;exact Calls.quiet_of (HBY.out _ (BlkIs.step HR.out (below_drewN (Below.refl _ _) _)))))
   go_wp2;exact⟨⟨1,rfl,Nat.le_refl _,zd (.inr ⟨rfl,nq,rfl⟩)⟩,by simp [intOf]⟩
end
section
open Go.Shelf Go.RowKit
def posQ (l:List UInt8)(i:Nat):Nat:=1+((l.take i).flatMap fun c:UInt8=>qB c.toNat).length
theorem xzmb (A B:List UInt8)(k:Nat)(hk:k<B.length):A.length+k<(⟨(A++B).toArray⟩:ByteArray).size/\bt ⟨(A++B).toArray⟩ (A.length+k)=(B[k]).toNat:=by
 have h:A.length+k<(⟨(A++B).toArray⟩:ByteArray).size:=by
  show _<(A++B).toArray.size
  simp
  omega
 refine⟨h,?_⟩;rw [xzdz _ _ h]
 show((A++B).toArray.toList[A.length+k]'_).toNat=_
 simp only [List.getElem_append_right (Nat.le_add_right A.length k),Nat.add_sub_cancel_left]
theorem xzgi (l:List UInt8)(i:Nat)(h:i<l.length):quoteL l=(([34]:List UInt8)++(l.take i).flatMap fun c:UInt8=>qB c.toNat)++(qB l[i].toNat++(((l.drop (i+1)).flatMap fun c:UInt8=>qB c.toNat)++[34])):=by
 unfold quoteL
 have h1:l=l.take i++(l[i]::l.drop (i+1)):=by rw [<-List.drop_eq_getElem_cons h,List.take_append_drop]
 conv=>lhs;rw [h1]
 simp only [List.flatMap_append,List.flatMap_cons,List.append_assoc]
theorem posQ_at (l:List UInt8)(i k:Nat)(h:i<l.length)(hk:k<(qB l[i].toNat).length):posQ l i+k<(⟨(quoteL l).toArray⟩:ByteArray).size/\bt ⟨(quoteL l).toArray⟩ (posQ l i+k)=((qB l[i].toNat)[k]).toNat:=by
 have h1:=xzmb (([34]:List UInt8)++(l.take i).flatMap fun c:UInt8=>qB c.toNat) (qB l[i].toNat++(((l.drop (i+1)).flatMap fun c:UInt8=>qB c.toNat)++[34])) k (by simp;omega);rw [<-xzgi l i h]at h1
 have h2:(([34]:List UInt8)++(l.take i).flatMap fun c:UInt8=>qB c.toNat).length=posQ l i:=by unfold posQ;simp;omega
 rw [h2]at h1;refine⟨h1.1,h1.2.trans ?_⟩;rw [List.getElem_append_left hk]
theorem xzmc (l:List UInt8):posQ l l.length<(⟨(quoteL l).toArray⟩:ByteArray).size/\bt ⟨(quoteL l).toArray⟩ (posQ l l.length)=34/\posQ l l.length+1=(⟨(quoteL l).toArray⟩:ByteArray).size:=by
 have h1:=xzmb (([34]:List UInt8)++l.flatMap fun c:UInt8=>qB c.toNat) [34] 0 (by simp)
 have h2:(([34]:List UInt8)++l.flatMap fun c:UInt8=>qB c.toNat).length=posQ l l.length:=by unfold posQ;simp;omega
 rw [h2]at h1;have h3:(([34]:List UInt8)++l.flatMap fun c:UInt8=>qB c.toNat)++[34]=quoteL l:=rfl;rw [h3]at h1;refine⟨h1.1,h1.2,?_⟩
 show _=(quoteL l).toArray.size
 unfold quoteL posQ
 simp
 omega
theorem xzjt (l:List UInt8):posQ l 0=1:=by simp [posQ]
theorem xzib (l:List UInt8):0<(⟨(quoteL l).toArray⟩:ByteArray).size/\bt ⟨(quoteL l).toArray⟩ 0=34:=by
 have h1:=xzmb [] (quoteL l) 0 (by unfold quoteL;simp);simp only [List.nil_append,List.length_nil,Nat.add_zero]at h1;refine⟨h1.1,h1.2.trans ?_⟩;unfold quoteL
 simp
theorem xzju (l:List UInt8)(i:Nat)(h:i<l.length):posQ l (i+1)=posQ l i+(qB l[i].toNat).length:=by
 unfold posQ;rw [xzcf l i h,List.length_append];omega
theorem xzic (l:List UInt8):(⟨(quoteL l).toArray⟩:ByteArray).size<=4*l.length+2:=by
 show(quoteL l).toArray.size<=_
 have:=xzbm l;unfold quoteL;simp only [List.size_toArray,List.length_append,List.length_singleton];omega
theorem xzdf:∀ v:Fin 16,dig (hexC v.val).toNat 16=(v.val:Int)/\32<=(hexC v.val).toNat/\(hexC v.val).toNat<=126/\(hexC v.val).toNat<256:=by decide+kernel
theorem xzmd (c:Nat)(hc:c<256):
 (∃ d,qB c=[92,UInt8.ofNat d]/\((d=34/\c=34)\/(d=92/\c=92)\/(d=110/\c=10)\/(d=114/\c=13)\/(d=116/\c=9)))\/
 (qB c=[UInt8.ofNat c]/\c≠34/\c≠92/\32<=c/\c<=126)\/
 (∃ x y,qB c=[92,120,hexC x,hexC y]/\x<16/\y<16/\16*x+y=c):=by
 unfold qB
 split
 ·rename_i h
  rcases h with rfl|rfl
  ·exact .inl ⟨34,rfl,.inl ⟨rfl,rfl⟩⟩
  ·exact .inl ⟨92,rfl,.inr (.inl ⟨rfl,rfl⟩)⟩
 split
 ·exact .inl ⟨110,rfl,by omega⟩
 split
 ·exact .inl ⟨114,rfl,by omega⟩
 split
 ·exact .inl ⟨116,rfl,by omega⟩
 split
 ·exact .inr (.inl ⟨rfl,by omega,by omega,by omega,by omega⟩)
 ·exact .inr (.inr ⟨c / 16,c%16,rfl,by omega,by omega,by omega⟩)
theorem xzid (l:List UInt8)(i:Nat)(h:i<l.length):Lib.byteCells (l.take (i+1))=Lib.byteCells (l.take i)++[.int .u8 (l[i].toNat:Nat)]:=by
 unfold Lib.byteCells;rw [List.take_succ_eq_append_getElem h,List.map_append]
 rfl
end
section
open Go.Shelf Go.RowKit
attribute [local irreducible] FreeW textFrame
theorem xzff (v:Nat)(hv:v<16)(w:World):Calls Tryd.prog 23 #[.int .u8 ((hexC v).toNat:Nat),.int .i64 16] w fun e w'=>e=.returned (.int .i64 v)/\w'=w:=by
 have h:=xzdy (hexC v).toNat 16 (xzdf ⟨v,hv⟩).2.2.2 (.inr rfl) w;rw [(xzdf ⟨v,hv⟩).1]at h;exact h
theorem xzme {w w':World}{B n:Nat}{v:Value}{xs:List Value}(h:w.ownsRow B 5 1 v n xs)(hb:Below w.heap.size w w'):w'.ownsRow B 5 1 v n xs:=by
 refine⟨h.1,h.2.imp id ?_⟩;rintro⟨g,cap,cur,rfl,a1,a2,a3⟩;exact⟨g,cap,cur,rfl,a1,(hb.block g (Array.getElem?_eq_some_iff.1 a2).1).trans a2,a3⟩
structure Rdg (w:World)(b:Nat)(S:ByteArray)(p:Nat)(v:Value)(n:Nat)(xs:List Value)(u:World):Prop where
 at_:RdAt b S p u
 own:u.ownsRow w.heap.size 5 1 v n xs
 old:Below b w u
 sz:w.heap.size<=u.heap.size
theorem Rdg.step {w:World}{b:Nat}{S:ByteArray}{p:Nat}{v:Value}{n:Nat}{xs:List Value}{u u':World}(h:Rdg w b S p v n xs u)(hb:Below u.heap.size u u')(hbw:b<=u.heap.size):Rdg w b S p v n xs u':=
 ⟨BlkIs.step h.at_ hb,xzme h.own hb,h.old.trans (hb.mono hbw),Nat.le_trans h.sz hb.size⟩
theorem Rdg.le {w:World}{b:Nat}{S:ByteArray}{p:Nat}{v:Value}{n:Nat}{xs:List Value}{u:World}(h:Rdg w b S p v n xs u):b<=u.heap.size:=Nat.le_of_lt (BlkIs.lt h.at_)
theorem Rdg.drewN {w:World}{b:Nat}{S:ByteArray}{p:Nat}{v:Value}{n:Nat}{xs:List Value}{u:World}(h:Rdg w b S p v n xs u)(m:Nat):Rdg w b S p v n xs (u.drewN m):=
 h.step (below_drewN (Below.refl _ _) _) h.le
theorem Rdg.put {w:World}{b:Nat}{S:ByteArray}{p q:Nat}{v:Value}{n:Nat}{xs:List Value}{u:World}(h:Rdg w b S p v n xs u):Rdg w b S q v n xs (u.setCell ⟨b,1,none⟩ (.int .i64 q)):=by
 refine⟨RdAt.put h.at_,⟨h.own.1,h.own.2.imp id ?_⟩,h.old.setCell (p:=⟨b,1,none⟩) (Nat.le_refl _) _,by rw [World.size_setCell];exact h.sz⟩;rintro⟨g,cap,cur,rfl,a1,a2,a3⟩;refine⟨g,cap,cur,rfl,a1,(Below.heap_setCell u ⟨b,1,none⟩ _ g ?_).trans a2,a3⟩;intro e
 simp at e
 subst e;have:=h.at_;unfold RdAt BlkIs at this;rw [a2]at this
 simp at this
theorem Rdg.more {w:World}{b:Nat}{S:ByteArray}{p:Nat}{v v':Value}{n:Nat}{xs ys:List Value}{u u':World}(h:Rdg w b S p v n xs u)(o:u'.ownsRow w.heap.size 5 1 v' (n+1) ys)(x:Obj)(hg:(u.alloc x).grownBy u' v.ownBlock)(hb:b<w.heap.size):Rdg w b S p v' (n+1) ys u':=by
 have hs:=hg.size;rw [World.size_alloc]at hs
 have hne:some b≠v.ownBlock:=fun e=>by have:=(h.own.lt b e.symm).1;omega
 refine⟨(hg.block b (by rw [World.size_alloc];have:=BlkIs.lt h.at_;omega) hne).trans (BlkIs.alloc h.at_ x),o,?_,by have:=h.sz;omega⟩;exact(h.old.alloc h.le x).grown hg (by rw [World.size_alloc];have:=h.le;omega) (fun k hk=>by have:=(h.own.lt k hk).1;omega)
theorem cvt_own {u:World}{B:Nat}{v:Value}{l:List UInt8}(h:u.ownsRow B 5 1 v l.length (Lib.byteCells l)):(convert 49 9 v).run Tryd.prog u=.ok (.string ⟨l.toArray⟩) u:=by
 rcases h.2 with⟨rfl,hz⟩|⟨g,cap,cur,rfl,h1⟩
 ·obtain rfl:l=[]:=List.eq_nil_of_length_eq_zero hz
  exact Lib.run_convert_nil_bytes u _ _ 5 0 Tryd.underlying49 Tryd.underlying5 Tryd.underlying9
 ·refine run_convert_bytes_back (P:=Tryd.prog) u 49 9 5 ⟨g,0,none⟩ cap l Tryd.underlying49 Tryd.underlying5 Tryd.underlying9 ?_
  intro j hj;exact h.cells (g:=g) rfl j _ (by simp [Lib.byteCells,hj])
def lenR:Value->Nat| .slice _ n _=>n|_=>0
theorem xzmf {u:World}{B n:Nat}{v:Value}{xs:List Value}(h:u.ownsRow B 5 1 v n xs):lenR v=n:=by
 obtain⟨ao,cap,rfl⟩:=xzag h
 rfl
theorem xzav {W:World}{n:Nat}{y:Value}(h:W.heap.size=n):(W.alloc (.cells #[y] 5)).cell? ⟨n,0,none⟩=some y:=by
 subst h
 simp
def Byt (S:ByteArray)(p c:Nat):Prop:=p<S.size/\bt S p=c
theorem xzaj {b p c:Nat}{S:ByteArray}{u:World}(h:RdAt b S p u)(hb:Byt S p c)(h1:32<=c)(h2:c<=126):Calls Tryd.prog 21 #[.pointer (some ⟨b,0,none⟩)] u fun e w'=>e=.returned (.int .u8 (c:Nat))/\∃ m,w'=u.drewN m:=by
 have:=xzkm b p S u h hb.1 (by rw [hb.2];exact h1) (by rw [hb.2];exact h2)
 rwa [hb.2]at this
theorem xzie {b p c n:Nat}{S:ByteArray}{w u:World}{v:Value}{xs:List Value}(h:Rdg w b S p v n xs u)(hb:Byt S p c)(h1:32<=c)(h2:c<=126):Calls Tryd.prog 21 #[.pointer (some ⟨b,0,none⟩)] u fun e w'=>e=.returned (.int .u8 (c:Nat))/\Rdg w b S p v n xs w':=
 (xzaj h.at_ hb h1 h2).mono fun _ _ ⟨he,m,hm⟩=>⟨he,hm▸h.drewN m⟩
set_option maxRecDepth 100000 in
set_option maxHeartbeats 8000000 in
theorem xzjv (l:List UInt8)(hl:l.length<=1073741824)(b:Nat)(w:World)(h:RdAt b ⟨(quoteL l).toArray⟩ 0 w):Calls Tryd.prog 14 #[.pointer (some ⟨b,0,none⟩)] w fun e w'=>e=.returned (.string ⟨l.toArray⟩)/\(Below b w w'/\RdAt b ⟨(quoteL l).toArray⟩ (⟨(quoteL l).toArray⟩:ByteArray).size w'):=by
 obtain⟨i0,hi,hz0,hz1,hz2⟩:=info_parts xzby;have hS:=xzic l;have hz:=xzib l;have he:=xzmc l;have hp0:=xzjt l;have HQA:=zd (fun i k h1 h2=>posQ_at l i k h1 h2);have HQS:=zd (fun i h1=>xzju l i h1);generalize(⟨(quoteL l).toArray⟩:ByteArray)=S at*;have hbw:=BlkIs.lt h;have HM:=zd (must_q b 0 S w h hz.1 (by omega) hz.2);have HE:=zd he;have HI:=zd (And.intro hi (And.intro hz0 (And.intro hz1 hz2)));have HR0:=zd h;clear h hz he hi hz0 hz1 hz2
 go_enter Tryd.func14,Tryd.ntmps14
 have HZ:=zd (fun(u:World) (m:Nat) (hu:u=(w.drewN m).setCell ⟨b,1,none⟩ (.int .i64 ((0+1:Nat):Int)))=>(show Rdg w b S (posQ l 0) (.slice none 0 0) 0 (Lib.byteCells (l.take 0)) u by
  rw [hp0,hu]
  exact((Rdg.mk (n:=0) HR0.out (World.ownsRow_nil _ _ _ _) (Below.refl _ _) (Nat.le_refl _):Rdg w b S 0 (.slice none 0 0) 0 (Lib.byteCells (l.take 0)) w).drewN m).put))
 go_wp2_with(go_at_call 20;refine HM.out.mono ?_;rintro e w1 ⟨rfl,m1,hm1⟩;have H0:=zd (HZ.out _ _ hm1);clear hm1)
 go_loopw [3] (fun v wr=>∃ i:Nat,i<=l.length/\Hid (Rdg w b S (posQ l i) v i (Lib.byteCells (l.take i)) wr)) (fun v _=>l.length - lenR v)
 case atStart=>exact⟨0,Nat.zero_le _,H0⟩
 case round=>
  obtain⟨i,hi,HH⟩:=hrel;have hlr:=xzmf HH.out.own;obtain⟨c0,c1,c2,c3⟩:=RdAt.cells HH.out.at_;have fz:=BlkIs.frozen HH.out.at_ 1
  by_cases hlt:i<l.length
  ·have hqc:=xzmd l[i].toNat (UInt8.toNat_lt _)
   have hat:=fun k hk=>HQA.out i k hlt hk
   have hsucc:=HQS.out i hlt;have hcells:=xzid l i hlt;have hc:l[i].toNat<256:=UInt8.toNat_lt _;generalize l[i].toNat=c at*;have HBW:=zd hbw
   rcases hqc with⟨d,hq,hd⟩|⟨hq,hr⟩|⟨x,y,hq,hx,hy,hxy⟩
   ·rcases hd with⟨rfl,rfl⟩|⟨rfl,rfl⟩|⟨rfl,rfl⟩|⟨rfl,rfl⟩|⟨rfl,rfl⟩
    ·rw [hq]at hat hsucc
     have HB:=zd (show Byt S (posQ l i) 92 from hat 0 (by simp));have HB1:=zd (show Byt S (posQ l i+1) 34 from hat 1 (by simp));have hsucc':posQ l (i+1)=posQ l i+2:=hsucc;have hps:=HB1.out.1;generalize posQ l i=p at*;have HX:=zd (And.intro hsucc' hcells);clear hat hsucc hsucc' hcells hq
     have k1:IntKind.i64.wrap ((p:Int)+1)=((p+1:Nat):Int):=by rw [IntKind.wrap_i64];omega
     have k2:IntKind.i64.wrap ((p:Int)+1+1)=((p+2:Nat):Int):=by rw [IntKind.wrap_i64];omega
     go_wp2_with fail
     go_at_call 21
     refine(xzaj HH.out.at_ HB.out (by omega) (by omega)).mono ?_;rintro e u1 ⟨rfl,m1,rfl⟩;have HD1:=zd (HH.out.drewN m1)
     go_wp2_with fail
     go_at_call 21
     refine(xzaj HD1.out.at_ HB.out (by omega) (by omega)).mono ?_;rintro e u2 ⟨rfl,m2,rfl⟩;have HS0:=zd (show Rdg w b S (p+1) _ i (Lib.byteCells (l.take i)) ((wr.drewN (m1+m2)).setCell ⟨b,1,none⟩ (.int .i64 ((p:Int)+1)))from(HH.out.drewN (m1+m2)).put (q:=p+1))
     go_wp2_with fail
     go_at_call 21
     refine(xzaj HS0.out.at_ HB1.out (by omega) (by omega)).mono ?_;rintro e u3 ⟨rfl,m3,rfl⟩;have HS:=zd (HS0.out.drewN m3)
     go_wp2_with(at_builtin;refine wpList_append_own _ rfl _ _ 49 rfl w.heap.size 5 i0 (.int .u8 0) 1 1 Tryd.underlying49 HI.out.1 HI.out.2.1 HI.out.2.2.1 HI.out.2.2.2 rfl (by decide) _ _ _ rfl (HS.out.own.alloc _) ⟨_,0,none⟩ 1 1 [.int .u8 (34:Nat)] rfl rfl ?c1 ?c2 ?c3 ?c4 ?c5 ?_)
     case c1=>
      intro j u hj
      match j,hj with
      |0,hj=>simp at hj;subst hj;exact xzav (by simp)
     case c2=>intro u hu;simp at hu;subst hu;rfl
     case c3=>unfold maxLen;omega
     case c4=>omega
     case c5=>have:=HS.out.sz;rw [World.size_alloc];omega
     intro v' w5 hown' hgrow _;have hg5:=HS.out.more hown' _ hgrow HBW.out;obtain⟨d0,d1,d2,d3⟩:=RdAt.cells hg5.at_;have gz:=BlkIs.frozen hg5.at_ 1;obtain⟨ao5,cap5,rfl⟩:=xzag hown';have HG:=zd hg5;clear hg5 hown' hgrow;go_wp2;refine⟨⟨i+1,hlt,?_⟩,?_⟩
     ·rw [HX.out.1,HX.out.2];exact zd (HG.out.put (q:=p+2))
     ·rw [hlr];show l.length - (i+1)<l.length - i;omega
    ·rw [hq]at hat hsucc
     have HB:=zd (show Byt S (posQ l i) 92 from hat 0 (by simp));have HB1:=zd (show Byt S (posQ l i+1) 92 from hat 1 (by simp));have hsucc':posQ l (i+1)=posQ l i+2:=hsucc;have hps:=HB1.out.1;generalize posQ l i=p at*;have HX:=zd (And.intro hsucc' hcells);clear hat hsucc hsucc' hcells hq
     have k1:IntKind.i64.wrap ((p:Int)+1)=((p+1:Nat):Int):=by rw [IntKind.wrap_i64];omega
     have k2:IntKind.i64.wrap ((p:Int)+1+1)=((p+2:Nat):Int):=by rw [IntKind.wrap_i64];omega
     go_wp2_with fail
     go_at_call 21
     refine(xzaj HH.out.at_ HB.out (by omega) (by omega)).mono ?_;rintro e u1 ⟨rfl,m1,rfl⟩;have HD1:=zd (HH.out.drewN m1)
     go_wp2_with fail
     go_at_call 21
     refine(xzaj HD1.out.at_ HB.out (by omega) (by omega)).mono ?_;rintro e u2 ⟨rfl,m2,rfl⟩;have HS0:=zd (show Rdg w b S (p+1) _ i (Lib.byteCells (l.take i)) ((wr.drewN (m1+m2)).setCell ⟨b,1,none⟩ (.int .i64 ((p:Int)+1)))from(HH.out.drewN (m1+m2)).put (q:=p+1))
     go_wp2_with fail
     go_at_call 21
     refine(xzaj HS0.out.at_ HB1.out (by omega) (by omega)).mono ?_;rintro e u3 ⟨rfl,m3,rfl⟩;have HS:=zd (HS0.out.drewN m3)
     go_wp2_with(at_builtin;refine wpList_append_own _ rfl _ _ 49 rfl w.heap.size 5 i0 (.int .u8 0) 1 1 Tryd.underlying49 HI.out.1 HI.out.2.1 HI.out.2.2.1 HI.out.2.2.2 rfl (by decide) _ _ _ rfl (HS.out.own.alloc _) ⟨_,0,none⟩ 1 1 [.int .u8 (92:Nat)] rfl rfl ?c1 ?c2 ?c3 ?c4 ?c5 ?_)
     case c1=>
      intro j u hj
      match j,hj with
      |0,hj=>simp at hj;subst hj;exact xzav (by simp)
     case c2=>intro u hu;simp at hu;subst hu;rfl
     case c3=>unfold maxLen;omega
     case c4=>omega
     case c5=>have:=HS.out.sz;rw [World.size_alloc];omega
     intro v' w5 hown' hgrow _;have hg5:=HS.out.more hown' _ hgrow HBW.out;obtain⟨d0,d1,d2,d3⟩:=RdAt.cells hg5.at_;have gz:=BlkIs.frozen hg5.at_ 1;obtain⟨ao5,cap5,rfl⟩:=xzag hown';have HG:=zd hg5;clear hg5 hown' hgrow;go_wp2;refine⟨⟨i+1,hlt,?_⟩,?_⟩
     ·rw [HX.out.1,HX.out.2];exact zd (HG.out.put (q:=p+2))
     ·rw [hlr];show l.length - (i+1)<l.length - i;omega
    ·rw [hq]at hat hsucc
     have HB:=zd (show Byt S (posQ l i) 92 from hat 0 (by simp));have HB1:=zd (show Byt S (posQ l i+1) 110 from hat 1 (by simp));have hsucc':posQ l (i+1)=posQ l i+2:=hsucc;have hps:=HB1.out.1;generalize posQ l i=p at*;have HX:=zd (And.intro hsucc' hcells);clear hat hsucc hsucc' hcells hq
     have k1:IntKind.i64.wrap ((p:Int)+1)=((p+1:Nat):Int):=by rw [IntKind.wrap_i64];omega
     have k2:IntKind.i64.wrap ((p:Int)+1+1)=((p+2:Nat):Int):=by rw [IntKind.wrap_i64];omega
     go_wp2_with fail
     go_at_call 21
     refine(xzaj HH.out.at_ HB.out (by omega) (by omega)).mono ?_;rintro e u1 ⟨rfl,m1,rfl⟩;have HD1:=zd (HH.out.drewN m1)
     go_wp2_with fail
     go_at_call 21
     refine(xzaj HD1.out.at_ HB.out (by omega) (by omega)).mono ?_;rintro e u2 ⟨rfl,m2,rfl⟩;have HS0:=zd (show Rdg w b S (p+1) _ i (Lib.byteCells (l.take i)) ((wr.drewN (m1+m2)).setCell ⟨b,1,none⟩ (.int .i64 ((p:Int)+1)))from(HH.out.drewN (m1+m2)).put (q:=p+1))
     go_wp2_with fail
     go_at_call 21
     refine(xzaj HS0.out.at_ HB1.out (by omega) (by omega)).mono ?_;rintro e u3 ⟨rfl,m3,rfl⟩;have HS:=zd (HS0.out.drewN m3)
     go_wp2_with(at_builtin;refine wpList_append_own _ rfl _ _ 49 rfl w.heap.size 5 i0 (.int .u8 0) 1 1 Tryd.underlying49 HI.out.1 HI.out.2.1 HI.out.2.2.1 HI.out.2.2.2 rfl (by decide) _ _ _ rfl (HS.out.own.alloc _) ⟨_,0,none⟩ 1 1 [.int .u8 (10:Nat)] rfl rfl ?c1 ?c2 ?c3 ?c4 ?c5 ?_)
     case c1=>
      intro j u hj
      match j,hj with
      |0,hj=>simp at hj;subst hj;exact xzav (by simp)
     case c2=>intro u hu;simp at hu;subst hu;rfl
     case c3=>unfold maxLen;omega
     case c4=>omega
     case c5=>have:=HS.out.sz;rw [World.size_alloc];omega
     intro v' w5 hown' hgrow _;have hg5:=HS.out.more hown' _ hgrow HBW.out;obtain⟨d0,d1,d2,d3⟩:=RdAt.cells hg5.at_;have gz:=BlkIs.frozen hg5.at_ 1;obtain⟨ao5,cap5,rfl⟩:=xzag hown';have HG:=zd hg5;clear hg5 hown' hgrow;go_wp2;refine⟨⟨i+1,hlt,?_⟩,?_⟩
     ·rw [HX.out.1,HX.out.2];exact zd (HG.out.put (q:=p+2))
     ·rw [hlr];show l.length - (i+1)<l.length - i;omega
    ·rw [hq]at hat hsucc
     have HB:=zd (show Byt S (posQ l i) 92 from hat 0 (by simp));have HB1:=zd (show Byt S (posQ l i+1) 114 from hat 1 (by simp));have hsucc':posQ l (i+1)=posQ l i+2:=hsucc;have hps:=HB1.out.1;generalize posQ l i=p at*;have HX:=zd (And.intro hsucc' hcells);clear hat hsucc hsucc' hcells hq
     have k1:IntKind.i64.wrap ((p:Int)+1)=((p+1:Nat):Int):=by rw [IntKind.wrap_i64];omega
     have k2:IntKind.i64.wrap ((p:Int)+1+1)=((p+2:Nat):Int):=by rw [IntKind.wrap_i64];omega
     go_wp2_with fail
     go_at_call 21
     refine(xzaj HH.out.at_ HB.out (by omega) (by omega)).mono ?_;rintro e u1 ⟨rfl,m1,rfl⟩;have HD1:=zd (HH.out.drewN m1)
     go_wp2_with fail
     go_at_call 21
     refine(xzaj HD1.out.at_ HB.out (by omega) (by omega)).mono ?_;rintro e u2 ⟨rfl,m2,rfl⟩;have HS0:=zd (show Rdg w b S (p+1) _ i (Lib.byteCells (l.take i)) ((wr.drewN (m1+m2)).setCell ⟨b,1,none⟩ (.int .i64 ((p:Int)+1)))from(HH.out.drewN (m1+m2)).put (q:=p+1))
     go_wp2_with fail
     go_at_call 21
     refine(xzaj HS0.out.at_ HB1.out (by omega) (by omega)).mono ?_;rintro e u3 ⟨rfl,m3,rfl⟩;have HS:=zd (HS0.out.drewN m3)
     go_wp2_with(at_builtin;refine wpList_append_own _ rfl _ _ 49 rfl w.heap.size 5 i0 (.int .u8 0) 1 1 Tryd.underlying49 HI.out.1 HI.out.2.1 HI.out.2.2.1 HI.out.2.2.2 rfl (by decide) _ _ _ rfl (HS.out.own.alloc _) ⟨_,0,none⟩ 1 1 [.int .u8 (13:Nat)] rfl rfl ?c1 ?c2 ?c3 ?c4 ?c5 ?_)
     case c1=>
      intro j u hj
      match j,hj with
      |0,hj=>simp at hj;subst hj;exact xzav (by simp)
     case c2=>intro u hu;simp at hu;subst hu;rfl
     case c3=>unfold maxLen;omega
     case c4=>omega
     case c5=>have:=HS.out.sz;rw [World.size_alloc];omega
     intro v' w5 hown' hgrow _;have hg5:=HS.out.more hown' _ hgrow HBW.out;obtain⟨d0,d1,d2,d3⟩:=RdAt.cells hg5.at_;have gz:=BlkIs.frozen hg5.at_ 1;obtain⟨ao5,cap5,rfl⟩:=xzag hown';have HG:=zd hg5;clear hg5 hown' hgrow;go_wp2;refine⟨⟨i+1,hlt,?_⟩,?_⟩
     ·rw [HX.out.1,HX.out.2];exact zd (HG.out.put (q:=p+2))
     ·rw [hlr];show l.length - (i+1)<l.length - i;omega
    ·rw [hq]at hat hsucc
     have HB:=zd (show Byt S (posQ l i) 92 from hat 0 (by simp));have HB1:=zd (show Byt S (posQ l i+1) 116 from hat 1 (by simp));have hsucc':posQ l (i+1)=posQ l i+2:=hsucc;have hps:=HB1.out.1;generalize posQ l i=p at*;have HX:=zd (And.intro hsucc' hcells);clear hat hsucc hsucc' hcells hq
     have k1:IntKind.i64.wrap ((p:Int)+1)=((p+1:Nat):Int):=by rw [IntKind.wrap_i64];omega
     have k2:IntKind.i64.wrap ((p:Int)+1+1)=((p+2:Nat):Int):=by rw [IntKind.wrap_i64];omega
     go_wp2_with fail
     go_at_call 21
     refine(xzaj HH.out.at_ HB.out (by omega) (by omega)).mono ?_;rintro e u1 ⟨rfl,m1,rfl⟩;have HD1:=zd (HH.out.drewN m1)
     go_wp2_with fail
     go_at_call 21
     refine(xzaj HD1.out.at_ HB.out (by omega) (by omega)).mono ?_;rintro e u2 ⟨rfl,m2,rfl⟩;have HS0:=zd (show Rdg w b S (p+1) _ i (Lib.byteCells (l.take i)) ((wr.drewN (m1+m2)).setCell ⟨b,1,none⟩ (.int .i64 ((p:Int)+1)))from(HH.out.drewN (m1+m2)).put (q:=p+1))
     go_wp2_with fail
     go_at_call 21
     refine(xzaj HS0.out.at_ HB1.out (by omega) (by omega)).mono ?_;rintro e u3 ⟨rfl,m3,rfl⟩;have HS:=zd (HS0.out.drewN m3)
     go_wp2_with(at_builtin;refine wpList_append_own _ rfl _ _ 49 rfl w.heap.size 5 i0 (.int .u8 0) 1 1 Tryd.underlying49 HI.out.1 HI.out.2.1 HI.out.2.2.1 HI.out.2.2.2 rfl (by decide) _ _ _ rfl (HS.out.own.alloc _) ⟨_,0,none⟩ 1 1 [.int .u8 (9:Nat)] rfl rfl ?c1 ?c2 ?c3 ?c4 ?c5 ?_)
     case c1=>
      intro j u hj
      match j,hj with
      |0,hj=>simp at hj;subst hj;exact xzav (by simp)
     case c2=>intro u hu;simp at hu;subst hu;rfl
     case c3=>unfold maxLen;omega
     case c4=>omega
     case c5=>have:=HS.out.sz;rw [World.size_alloc];omega
     intro v' w5 hown' hgrow _;have hg5:=HS.out.more hown' _ hgrow HBW.out;obtain⟨d0,d1,d2,d3⟩:=RdAt.cells hg5.at_;have gz:=BlkIs.frozen hg5.at_ 1;obtain⟨ao5,cap5,rfl⟩:=xzag hown';have HG:=zd hg5;clear hg5 hown' hgrow;go_wp2;refine⟨⟨i+1,hlt,?_⟩,?_⟩
     ·rw [HX.out.1,HX.out.2];exact zd (HG.out.put (q:=p+2))
     ·rw [hlr];show l.length - (i+1)<l.length - i;omega
   ·obtain⟨h34,h92,hlo,hhi⟩:=hr
    rw [hq]at hat hsucc
    have HB:=zd (show Byt S (posQ l i) c by
     have h:=hat 0 (by simp)
     exact⟨h.1,h.2.trans (by simp [Nat.mod_eq_of_lt hc])⟩)
    have hsucc':posQ l (i+1)=posQ l i+1:=hsucc;have hps:=HB.out.1;generalize posQ l i=p at*;have HX:=zd (And.intro hsucc' hcells);clear hat hsucc hsucc' hcells hq
    have k1:IntKind.i64.wrap ((p:Int)+1)=((p+1:Nat):Int):=by rw [IntKind.wrap_i64];omega
    have n34:((c:Int) != 34)=true:=by simp;omega
    have n0:((c:Int)==0)=false:=by simp;omega
    have n92:((c:Int) != 92)=true:=by simp;omega
    go_wp2_with fail
    go_at_call 21
    refine(xzaj HH.out.at_ HB.out (by omega) (by omega)).mono ?_;rintro e u1 ⟨rfl,m1,rfl⟩;have HD1:=zd (HH.out.drewN m1)
    go_wp2_with fail
    go_at_call 21
    refine(xzaj HD1.out.at_ HB.out (by omega) (by omega)).mono ?_;rintro e u2 ⟨rfl,m2,rfl⟩;have HS:=zd (show Rdg w b S (p+1) _ i (Lib.byteCells (l.take i)) ((wr.drewN (m1+m2)).setCell ⟨b,1,none⟩ (.int .i64 ((p:Int)+1)))from(HH.out.drewN (m1+m2)).put (q:=p+1))
    go_wp2_with(at_builtin;refine wpList_append_own _ rfl _ _ 49 rfl w.heap.size 5 i0 (.int .u8 0) 1 1 Tryd.underlying49 HI.out.1 HI.out.2.1 HI.out.2.2.1 HI.out.2.2.2 rfl (by decide) _ _ _ rfl (HS.out.own.alloc _) ⟨_,0,none⟩ 1 1 [.int .u8 (c:Nat)] rfl rfl ?c1 ?c2 ?c3 ?c4 ?c5 ?_)
    case c1=>
     intro j u hj
     match j,hj with
     |0,hj=>simp at hj;subst hj;exact xzav (by simp)
    case c2=>intro u hu;simp at hu;subst hu;rfl
    case c3=>unfold maxLen;omega
    case c4=>omega
    case c5=>have:=HS.out.sz;rw [World.size_alloc];omega
    intro v' w5 hown' hgrow _;have hg5:=HS.out.more hown' _ hgrow HBW.out;obtain⟨d0,d1,d2,d3⟩:=RdAt.cells hg5.at_;have gz:=BlkIs.frozen hg5.at_ 1;obtain⟨ao5,cap5,rfl⟩:=xzag hown';have HG:=zd hg5;clear hg5 hown' hgrow;go_wp2;refine⟨⟨i+1,hlt,?_⟩,?_⟩
    ·rw [HX.out.1,HX.out.2];exact HG
    ·rw [hlr];show l.length - (i+1)<l.length - i;omega
   ·rw [hq]at hat hsucc
    have HB0:=zd (show Byt S (posQ l i) 92 from hat 0 (by simp));have HB1:=zd (show Byt S (posQ l i+1) 120 from hat 1 (by simp));have HB2:=zd (show Byt S (posQ l i+2) (hexC x).toNat from hat 2 (by simp));have HB3:=zd (show Byt S (posQ l i+3) (hexC y).toNat from hat 3 (by simp));have hsucc':posQ l (i+1)=posQ l i+4:=hsucc;have hps:=HB3.out.1;generalize posQ l i=p at*;have HX:=zd (And.intro hsucc' hcells);clear hat hsucc hsucc' hcells hq;have hdx:=xzdf ⟨x,hx⟩;have hdy:=xzdf ⟨y,hy⟩;have HDX:=zd (fun u=>xzff x hx u);have HDY:=zd (fun u=>xzff y hy u);have hx1:32<=(hexC x).toNat:=hdx.2.1;have hx2:(hexC x).toNat<=126:=hdx.2.2.1;have hy1:32<=(hexC y).toNat:=hdy.2.1;have hy2:(hexC y).toNat<=126:=hdy.2.2.1;clear hdx hdy;generalize(hexC x).toNat=cx at*;generalize(hexC y).toNat=cy at*
    have k1:IntKind.i64.wrap ((p:Int)+1)=((p+1:Nat):Int):=by rw [IntKind.wrap_i64];omega
    have k2:IntKind.i64.wrap ((p:Int)+1+1)=((p+2:Nat):Int):=by rw [IntKind.wrap_i64];omega
    have k3:IntKind.i64.wrap ((p:Int)+2+1)=((p+3:Nat):Int):=by rw [IntKind.wrap_i64];omega
    have k4:IntKind.i64.wrap ((p:Int)+3+1)=((p+4:Nat):Int):=by rw [IntKind.wrap_i64];omega
    have kx:decide ((x:Int)<0)=false:=by simp
    have ky:decide ((y:Int)<0)=false:=by simp
    have ka:IntKind.i64.wrap (16*(x:Int))=16*(x:Int):=by rw [IntKind.wrap_i64];omega
    have kb:IntKind.i64.wrap (16*(x:Int)+(y:Int))=(c:Int):=by rw [IntKind.wrap_i64];omega
    have kc:IntKind.u8.wrap (c:Int)=(c:Int):=by rw [IntKind.wrap_u8];omega
    go_wp2_with fail
    go_at_call 21
    refine(xzie (p:=p) HH.out HB0.out (by omega) (by omega)).mono ?_;rintro e u1 ⟨rfl,hn1⟩;obtain⟨c0,c1,c2,c3⟩:=RdAt.cells hn1.at_;have fz:=BlkIs.frozen hn1.at_ 1;have HN1:=zd hn1;clear hn1
    go_wp2_with fail
    go_at_call 21
    refine(xzie (p:=p) HN1.out HB0.out (by omega) (by omega)).mono ?_;rintro e u2 ⟨rfl,hn2⟩;obtain⟨c0,c1,c2,c3⟩:=RdAt.cells hn2.at_;have fz:=BlkIs.frozen hn2.at_ 1;have HN2:=zd hn2;clear hn2
    go_wp2_with fail
    go_at_call 21
    refine(xzie (p:=p+1) (HN2.out.put (q:=p+1)) HB1.out (by omega) (by omega)).mono ?_;rintro e u3 ⟨rfl,hn3⟩;obtain⟨c0,c1,c2,c3⟩:=RdAt.cells hn3.at_;have fz:=BlkIs.frozen hn3.at_ 1;have HN3:=zd hn3;clear hn3
    go_wp2_with fail
    go_at_call 21
    refine(xzie (p:=p+2) (HN3.out.put (q:=p+2)) HB2.out (by omega) (by omega)).mono ?_;rintro e u4 ⟨rfl,hn4⟩;obtain⟨c0,c1,c2,c3⟩:=RdAt.cells hn4.at_;have fz:=BlkIs.frozen hn4.at_ 1;have HN4:=zd hn4;clear hn4
    go_wp2_with(go_at_call 23;refine(HDX.out _).mono ?_;rintro e u5 ⟨rfl,rfl⟩)
    go_wp2_with fail
    go_at_call 21
    refine(xzie (p:=p+3) (HN4.out.put (q:=p+3)) HB3.out (by omega) (by omega)).mono ?_;rintro e u6 ⟨rfl,hn6⟩;obtain⟨c0,c1,c2,c3⟩:=RdAt.cells hn6.at_;have fz:=BlkIs.frozen hn6.at_ 1;have HN6:=zd hn6;clear hn6;have HS:=zd HN6.out
    go_wp2_with(first
     |(go_at_call 23;refine(HDY.out _).mono ?_;rintro e u7 ⟨rfl,rfl⟩)
     |(at_builtin;refine wpList_append_own _ rfl _ _ 49 rfl w.heap.size 5 i0 (.int .u8 0) 1 1 Tryd.underlying49 HI.out.1 HI.out.2.1 HI.out.2.2.1 HI.out.2.2.2 rfl (by decide) _ _ _ rfl (HS.out.own.alloc _) ⟨_,0,none⟩ 1 1 [.int .u8 (c:Nat)] rfl rfl ?c1 ?c2 ?c3 ?c4 ?c5 ?_))
    case c1=>
     intro j u hj
     match j,hj with
     |0,hj=>simp at hj;subst hj;exact xzav (by simp)
    case c2=>intro u hu;simp at hu;subst hu;rfl
    case c3=>unfold maxLen;omega
    case c4=>omega
    case c5=>have:=HS.out.sz;rw [World.size_alloc];omega
    intro v' w5 hown' hgrow _;have hg5:=HS.out.more hown' _ hgrow HBW.out;obtain⟨d0,d1,d2,d3⟩:=RdAt.cells hg5.at_;have gz:=BlkIs.frozen hg5.at_ 1;obtain⟨ao5,cap5,rfl⟩:=xzag hown';have HG:=zd hg5;clear hg5 hown' hgrow;go_wp2;refine⟨⟨i+1,hlt,?_⟩,?_⟩
    ·rw [HX.out.1,HX.out.2];exact zd (HG.out.put (q:=p+4))
    ·rw [hlr];show l.length - (i+1)<l.length - i;omega
  ·obtain rfl:i=l.length:=by omega
   have HB:=zd (xzaj HH.out.at_ (show Byt S (posQ l l.length) 34 from⟨HE.out.1,HE.out.2.1⟩) (by omega) (by omega))
   go_wp2_with(go_at_call 21;refine HB.out.mono ?_;rintro e w2 ⟨rfl,m2,rfl⟩)
   have HD:=zd (HH.out.drewN m2);have HM2:=zd (must_q b (posQ l l.length) S (wr.drewN m2) HD.out.at_ HE.out.1 (by omega) HE.out.2.1)
   have HF0:=zd (fun(u:World) (m:Nat) (hu:u=((wr.drewN m2).drewN m).setCell ⟨b,1,none⟩ (.int .i64 ((posQ l l.length+1:Nat):Int)))=>(show Rdg w b S S.size _ l.length (Lib.byteCells l) u by
    have:=(HD.out.drewN m).put (q:=posQ l l.length+1);rw [<-hu,HE.out.2.2,List.take_length]at this
    exact this))
   go_wp2_with(go_at_call 20;refine HM2.out.mono ?_;rintro e w3 ⟨rfl,m3,hm3⟩;have HF:=zd (HF0.out _ _ hm3);have hcv:=cvt_own HF.out.own;clear hm3)
   go_ret;exact⟨rfl,HF.out.old,HF.out.at_⟩
end
end Go.Proofs.YtgjfhbpmahgfcaaDoor
