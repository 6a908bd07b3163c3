/-
 rprint's Quote: contracts. Condition: a text has at most 2^30 bytes.
-/
import Derived.Test.YtgjfhbpmahgfcaaDoorQG19
import Derived.Test.YtgjfhbpmahgfcaaDoorQG18
import Derived.Test.YtgjfhbpmahgfcaaDoorQG05
namespace Go.Proofs.YtgjfhbpmahgfcaaDoor
section
open Go.Shelf Go.RowKit
attribute [local irreducible] FreeW textFrame
def hexA:ByteArray:=⟨#[48,49,50,51,52,53,54,55,56,57,97,98,99,100,101,102]⟩
def hexC (i:Nat):UInt8:=UInt8.ofNat (if i<10 then 48+i else 87+i)
def qB (b:Nat):List UInt8:=
 if b=34\/b=92 then [92,UInt8.ofNat b]else
 if b=10 then [92,110]else
 if b=13 then [92,114]else
 if b=9 then [92,116]else
 if 32<=b/\b<=126 then [UInt8.ofNat b]else [92,120,hexC (b / 16),hexC (b%16)]
theorem cvt (u:World)(g n:Nat)(l:List UInt8)(t:TypeId)(h:BlkIs u g t (Lib.byteCells l).toArray)(hn:l.length=n):(convert 49 9 (.slice (some ⟨g,0,none⟩) n n)).run Tryd.prog u=.ok (.string ⟨l.toArray⟩) u:=by
 subst hn;refine run_convert_bytes_back (P:=Tryd.prog) u 49 9 5 ⟨g,0,none⟩ l.length l Tryd.underlying49 Tryd.underlying5 Tryd.underlying9 ?_;intro j hj;rw [Addr.add_lit,Nat.zero_add,h.cell j]
 simp [Lib.byteCells,hj]
theorem ofNat_b {b:Nat}(h:b<256):((UInt8.ofNat b).toNat:Int)=(b:Int):=by
 have:(UInt8.ofNat b).toNat=b:=by simp [Nat.mod_eq_of_lt h]
 rw [this]
theorem hex_all:∀ i:Fin 16,((hexA)[i.val]'(i.isLt)).toNat=(hexC i.val).toNat:=by decide+kernel
theorem xzfe (x:Int)(i:Nat)(hx:x=(i:Int))(hi:i<16)(h:x.toNat<(⟨#[48,49,50,51,52,53,54,55,56,57,97,98,99,100,101,102]⟩:ByteArray).size):((⟨#[48,49,50,51,52,53,54,55,56,57,97,98,99,100,101,102]⟩:ByteArray)[x.toNat]'h).toNat=(hexC i).toNat:=by
 subst hx;exact hex_all ⟨i,hi⟩
theorem xzjo:∀ b:Fin 256,bits BinOp.and IntKind.u8 ((b.val:Nat):Int) 15=((b.val%16:Nat):Int):=by decide+kernel
set_option maxRecDepth 100000 in
set_option maxHeartbeats 4000000 in
theorem xzde (b:Nat)(hb:b<256)(w:World):Calls Tryd.prog 12 #[.int .u8 b] w fun e w'=>e=.returned (.string ⟨(qB b).toArray⟩)/\Below w.heap.size w w':=by
 by_cases e34:b=34
 ·subst e34
  have hc:=cvt (w.alloc (.cells #[.int .u8 92,.int .u8 34] 5)) w.heap.size 2 [92,34] _ (BlkIs.new w _ _) rfl;have HB:=zd ((Below.refl w.heap.size w).alloc (Nat.le_refl _) (.cells #[.int .u8 92,.int .u8 34] 5))
  go_enter Tryd.func12,Tryd.ntmps12
  go_wp2;go_ret;exact⟨rfl,HB.out⟩
 by_cases e92:b=92
 ·subst e92
  have hc:=cvt (w.alloc (.cells #[.int .u8 92,.int .u8 92] 5)) w.heap.size 2 [92,92] _ (BlkIs.new w _ _) rfl;have HB:=zd ((Below.refl w.heap.size w).alloc (Nat.le_refl _) (.cells #[.int .u8 92,.int .u8 92] 5))
  go_enter Tryd.func12,Tryd.ntmps12
  go_wp2;go_ret;exact⟨rfl,HB.out⟩
 by_cases e10:b=10
 ·subst e10
  go_enter Tryd.func12,Tryd.ntmps12
  go_wp2;go_ret;exact⟨rfl,Below.refl _ _⟩
 by_cases e13:b=13
 ·subst e13
  go_enter Tryd.func12,Tryd.ntmps12
  go_wp2;go_ret;exact⟨rfl,Below.refl _ _⟩
 by_cases e9:b=9
 ·subst e9
  go_enter Tryd.func12,Tryd.ntmps12
  go_wp2;go_ret;exact⟨rfl,Below.refl _ _⟩
 have n34:((b:Int)==34)=false:=by simp;omega
 have n92:((b:Int)==92)=false:=by simp;omega
 have n10:((b:Int)==10)=false:=by simp;omega
 have n13:((b:Int)==13)=false:=by simp;omega
 have n9:((b:Int)==9)=false:=by simp;omega
 by_cases hp:32<=b/\b<=126
 ·have p1:decide ((b:Int)>=32)=true:=by simp;omega
  have p1b:decide ((32:Int)<=(b:Int))=true:=by simp;omega
  have p2:decide ((b:Int)<=126)=true:=by simp;omega
  have hc:=cvt (w.alloc (.cells #[.int .u8 b] 5)) w.heap.size 1 [UInt8.ofNat b] _ (by
   have:=BlkIs.new w 5 #[.int .u8 b];unfold Lib.byteCells;simp only [List.map_cons,List.map_nil,ofNat_b hb]
   exact this) rfl
  have HB:=zd ((Below.refl w.heap.size w).alloc (Nat.le_refl _) (.cells #[.int .u8 b] 5));have HQ:=zd (show qB b=[UInt8.ofNat b]by unfold qB;rw [if_neg (by omega),if_neg e10,if_neg e13,if_neg e9,if_pos hp]);clear e34 e92 e10 e13 e9 hp
  go_enter Tryd.func12,Tryd.ntmps12
  go_wp2;go_ret;exact⟨by rw [HQ.out];rfl,HB.out⟩
 have HQ:=zd (show qB b=[92,120,hexC (b / 16),hexC (b%16)]by unfold qB;rw [if_neg (by omega),if_neg e10,if_neg e13,if_neg e9,if_neg hp])
 have hpp:(b<32)\/(32<=b/\126<b):=by omega
 clear e34 e92 e10 e13 e9 hp;have HA15:=zd (xzjo ⟨b,hb⟩)
 rcases hpp with hlo|⟨hlo,hhi⟩
 ·have p1:decide ((b:Int)>=32)=false:=by simp;omega
  have p1b:decide ((32:Int)<=(b:Int))=false:=by simp;omega
  go_enter Tryd.func12,Tryd.ntmps12
  go_wp2_with fail
  refine xzau 8 40 (fun u=>Hid (Below w.heap.size w u)) (fun _ u u'=>Below u.heap.size u u')
   (fun i v u=>match i with
    |0=>v=.int .u8 (b:Nat)
    |1=>v=.int .u8 ((b / 16:Nat):Int)
    |2=>v=.int .u8 ((hexC (b / 16)).toNat:Nat)
    |3=>v=.int .u8 (b:Nat)
    |4=>v=.int .u8 ((b%16:Nat):Int)
    |5=>v=.int .u8 ((hexC (b%16)).toNat:Nat)
    |6=>∃ g,v=.slice (some ⟨g,0,none⟩) 4 4/\BlkIs u g 5 (Lib.byteCells [92,120,hexC (b / 16),hexC (b%16)]).toArray
    |7=>v=.string ⟨#[92,120,hexC (b / 16),hexC (b%16)]⟩
    |_=>True) (by kernel_rfl) (by kernel_rfl) rfl (zd (Below.refl _ _).drew) ?_ ?_ ?_ ?_
  ·intro i u u' hix hC hr
   exact zd (hC.out.trans (hr.mono hC.out.size))
  ·intro i j v u u' hix hj hne hv hr
   match i,hix,hne,hv with
   |0,_,_,hv=>exact hv
   |1,_,_,hv=>exact hv
   |2,_,_,hv=>exact hv
   |3,_,_,hv=>exact hv
   |4,_,_,hv=>exact hv
   |5,_,_,hv=>exact hv
   |6,_,hne,hv=>
    obtain⟨g,e,h1⟩:=hv;exact⟨g,e,h1.step hr⟩
   |7,_,_,hv=>exact hv
   |i+8,hix,_,_=>omega
  ·intro i hix vs u hC hw oq ho
   match i,hix,hw,ho with
   |0,_,hw,ho=>
    simp only [zq,zh]at ho;subst ho;refine⟨rfl,?_⟩;clear hw;simp only [xzaa,tmpsTo];go_simp;exact xzad (Below.refl _ _) rfl
   |1,_,hw,ho=>
    have e0:vs 0=.int .u8 (b:Nat):=hw 0 (by omega) (by kernel_rfl);simp only [zq,zh]at ho;subst ho;refine⟨rfl,?_⟩;clear hw;simp only [xzaa,tmpsTo,putT,zr];rw [e0];clear e0;go_simp;exact xzad (Below.refl _ _) rfl
   |2,_,hw,ho=>
    have e1:vs 1=.int .u8 ((b / 16:Nat):Int):=hw 1 (by omega) (by kernel_rfl);simp only [zq,zh]at ho;subst ho;refine⟨rfl,?_⟩;clear hw;simp only [xzaa,tmpsTo,putT,zr];rw [e1];clear e1;go_simp;rw [dif_pos ⟨by omega,by omega⟩];simp only [Result.andThen];exact xzad (Below.refl _ _) (congrArg (fun k:Nat=>Value.int .u8 (k:Int)) (xzfe _ (b / 16) (by omega) (by omega) _))
   |3,_,hw,ho=>
    simp only [zq,zh]at ho;subst ho;refine⟨rfl,?_⟩;clear hw;simp only [xzaa,tmpsTo,putT,zr];go_simp;exact xzad (Below.refl _ _) rfl
   |4,_,hw,ho=>
    have e3:vs 3=.int .u8 (b:Nat):=hw 3 (by omega) (by kernel_rfl);simp only [zq,zh]at ho;subst ho;refine⟨rfl,?_⟩;clear hw;simp only [xzaa,tmpsTo,putT,zr];rw [e3];clear e3;have h15:=HA15.out;go_simp;exact xzad (Below.refl _ _) rfl
   |5,_,hw,ho=>
    have e4:vs 4=.int .u8 ((b%16:Nat):Int):=hw 4 (by omega) (by kernel_rfl);simp only [zq,zh]at ho;subst ho;refine⟨rfl,?_⟩;clear hw;simp only [xzaa,tmpsTo,putT,zr];rw [e4];clear e4;go_simp;rw [dif_pos ⟨by omega,by omega⟩];simp only [Result.andThen];exact xzad (Below.refl _ _) (congrArg (fun k:Nat=>Value.int .u8 (k:Int)) (xzfe _ (b%16) (by omega) (by omega) _))
   |6,_,hw,ho=>
    have e2:vs 2=.int .u8 ((hexC (b / 16)).toNat:Nat):=hw 2 (by omega) (by kernel_rfl);have e5:vs 5=.int .u8 ((hexC (b%16)).toNat:Nat):=hw 5 (by omega) (by kernel_rfl);simp only [zq,zh]at ho;subst ho;refine⟨rfl,?_⟩;clear hw;simp only [xzaa,tmpsTo,putT,zr];rw [e2,e5];clear e2 e5;go_simp;exact xzad ((Below.refl _ _).alloc (Nat.le_refl _) _) ⟨_,rfl,BlkIs.new _ _ _⟩
   |7,_,hw,ho=>
    obtain⟨g6,f6,h6⟩:=hw 6 (by omega) (by kernel_rfl);simp only [zq,zh]at ho;subst ho;refine⟨rfl,?_⟩;clear hw;simp only [xzaa,tmpsTo,putT,zr];rw [f6];have hc:=cvt u g6 4 _ _ h6 rfl;go_simp;exact xzad (Below.refl _ _) rfl
   |i+8,hix,_,_=>omega
  intro vs u hC hV;have e7:vs 7=_:=hV 7 (by omega);have HC:=zd hC.out;clear hV hC;simp only [xzaa,tmpsTo,putT,zr,List.drop_succ_cons,List.drop_zero];rw [e7];clear e7;go_wp2;go_ret;exact⟨by rw [HQ.out];rfl,HC.out⟩
 ·have p1:decide ((b:Int)>=32)=true:=by simp;omega
  have p1b:decide ((32:Int)<=(b:Int))=true:=by simp;omega
  have p2:decide ((b:Int)<=126)=false:=by simp;omega
  go_enter Tryd.func12,Tryd.ntmps12
  go_wp2_with fail
  refine xzau 8 40 (fun u=>Hid (Below w.heap.size w u)) (fun _ u u'=>Below u.heap.size u u')
   (fun i v u=>match i with
    |0=>v=.int .u8 (b:Nat)
    |1=>v=.int .u8 ((b / 16:Nat):Int)
    |2=>v=.int .u8 ((hexC (b / 16)).toNat:Nat)
    |3=>v=.int .u8 (b:Nat)
    |4=>v=.int .u8 ((b%16:Nat):Int)
    |5=>v=.int .u8 ((hexC (b%16)).toNat:Nat)
    |6=>∃ g,v=.slice (some ⟨g,0,none⟩) 4 4/\BlkIs u g 5 (Lib.byteCells [92,120,hexC (b / 16),hexC (b%16)]).toArray
    |7=>v=.string ⟨#[92,120,hexC (b / 16),hexC (b%16)]⟩
    |_=>True) (by kernel_rfl) (by kernel_rfl) rfl (zd (Below.refl _ _).drew) ?_ ?_ ?_ ?_
  ·intro i u u' hix hC hr
   exact zd (hC.out.trans (hr.mono hC.out.size))
  ·intro i j v u u' hix hj hne hv hr
   match i,hix,hne,hv with
   |0,_,_,hv=>exact hv
   |1,_,_,hv=>exact hv
   |2,_,_,hv=>exact hv
   |3,_,_,hv=>exact hv
   |4,_,_,hv=>exact hv
   |5,_,_,hv=>exact hv
   |6,_,hne,hv=>
    obtain⟨g,e,h1⟩:=hv;exact⟨g,e,h1.step hr⟩
   |7,_,_,hv=>exact hv
   |i+8,hix,_,_=>omega
  ·intro i hix vs u hC hw oq ho
   match i,hix,hw,ho with
   |0,_,hw,ho=>
    simp only [zq,zh]at ho;subst ho;refine⟨rfl,?_⟩;clear hw;simp only [xzaa,tmpsTo];go_simp;exact xzad (Below.refl _ _) rfl
   |1,_,hw,ho=>
    have e0:vs 0=.int .u8 (b:Nat):=hw 0 (by omega) (by kernel_rfl);simp only [zq,zh]at ho;subst ho;refine⟨rfl,?_⟩;clear hw;simp only [xzaa,tmpsTo,putT,zr];rw [e0];clear e0;go_simp;exact xzad (Below.refl _ _) rfl
   |2,_,hw,ho=>
    have e1:vs 1=.int .u8 ((b / 16:Nat):Int):=hw 1 (by omega) (by kernel_rfl);simp only [zq,zh]at ho;subst ho;refine⟨rfl,?_⟩;clear hw;simp only [xzaa,tmpsTo,putT,zr];rw [e1];clear e1;go_simp;rw [dif_pos ⟨by omega,by omega⟩];simp only [Result.andThen];exact xzad (Below.refl _ _) (congrArg (fun k:Nat=>Value.int .u8 (k:Int)) (xzfe _ (b / 16) (by omega) (by omega) _))
   |3,_,hw,ho=>
    simp only [zq,zh]at ho;subst ho;refine⟨rfl,?_⟩;clear hw;simp only [xzaa,tmpsTo,putT,zr];go_simp;exact xzad (Below.refl _ _) rfl
   |4,_,hw,ho=>
    have e3:vs 3=.int .u8 (b:Nat):=hw 3 (by omega) (by kernel_rfl);simp only [zq,zh]at ho;subst ho;refine⟨rfl,?_⟩;clear hw;simp only [xzaa,tmpsTo,putT,zr];rw [e3];clear e3;have h15:=HA15.out;go_simp;exact xzad (Below.refl _ _) rfl
   |5,_,hw,ho=>
    have e4:vs 4=.int .u8 ((b%16:Nat):Int):=hw 4 (by omega) (by kernel_rfl);simp only [zq,zh]at ho;subst ho;refine⟨rfl,?_⟩;clear hw;simp only [xzaa,tmpsTo,putT,zr];rw [e4];clear e4;go_simp;rw [dif_pos ⟨by omega,by omega⟩];simp only [Result.andThen];exact xzad (Below.refl _ _) (congrArg (fun k:Nat=>Value.int .u8 (k:Int)) (xzfe _ (b%16) (by omega) (by omega) _))
   |6,_,hw,ho=>
    have e2:vs 2=.int .u8 ((hexC (b / 16)).toNat:Nat):=hw 2 (by omega) (by kernel_rfl);have e5:vs 5=.int .u8 ((hexC (b%16)).toNat:Nat):=hw 5 (by omega) (by kernel_rfl);simp only [zq,zh]at ho;subst ho;refine⟨rfl,?_⟩;clear hw;simp only [xzaa,tmpsTo,putT,zr];rw [e2,e5];clear e2 e5;go_simp;exact xzad ((Below.refl _ _).alloc (Nat.le_refl _) _) ⟨_,rfl,BlkIs.new _ _ _⟩
   |7,_,hw,ho=>
    obtain⟨g6,f6,h6⟩:=hw 6 (by omega) (by kernel_rfl);simp only [zq,zh]at ho;subst ho;refine⟨rfl,?_⟩;clear hw;simp only [xzaa,tmpsTo,putT,zr];rw [f6];have hc:=cvt u g6 4 _ _ h6 rfl;go_simp;exact xzad (Below.refl _ _) rfl
   |i+8,hix,_,_=>omega
  intro vs u hC hV;have e7:vs 7=_:=hV 7 (by omega);have HC:=zd hC.out;clear hV hC;simp only [xzaa,tmpsTo,putT,zr,List.drop_succ_cons,List.drop_zero];rw [e7];clear e7;go_wp2;go_ret;exact⟨by rw [HQ.out];rfl,HC.out⟩
end
section
open Go.Shelf Go.RowKit
def BqAt (B b:Nat)(p:Value)(bs:List Value)(w:World):Prop:=
 B<=b/\∃ v,BlkIs w b 51 #[p,v]/\w.ownsRow B 5 1 v bs.length bs/\v.ownBlock≠some b
theorem BqAt.step {B b:Nat}{p:Value}{bs:List Value}{w w':World}(h:BqAt B b p bs w)(hb:Below w.heap.size w w'):BqAt B b p bs w':=by
 obtain⟨hB,v,h1,h2,h3⟩:=h;refine⟨hB,v,h1.step hb,?_,h3⟩;refine⟨h2.1,h2.2.imp id ?_⟩;rintro⟨g,cap,cur,rfl,a1,a2,a3⟩;exact⟨g,cap,cur,rfl,a1,(hb.block g (Array.getElem?_eq_some_iff.1 a2).1).trans a2,a3⟩
def IsBq (B b:Nat)(bs:List Value)(w:World):Prop:=BqAt B b (.pointer none) bs w\/BqAt B b (.pointer (some ⟨b,0,none⟩)) bs w
theorem IsBq.step {B b:Nat}{bs:List Value}{w w':World}(h:IsBq B b bs w)(hb:Below w.heap.size w w'):IsBq B b bs w':=h.imp (·.step hb) (·.step hb)
theorem bq_lies:liesAt Tryd.prog Tryd.prog.depth 51 (2 / Tryd.prog.cellsOf 51) 0 51 1=true:=by kernel_rfl
set_option maxHeartbeats 1000000 in
set_option maxRecDepth 100000 in
theorem xzma (b:Nat)(w:World)(h0:w.cell? ⟨b,0,none⟩=some (.pointer none))(hsh:w.shape? b=some (51,2))(hfz:w.frozen? ⟨b,0,none⟩=false):
 Calls Tryd.prog 19 #[.pointer (some ⟨b,0,none⟩)] w fun e w'=>e=.returned (.tuple #[])/\w'=w.setCell ⟨b,0,none⟩ (.pointer (some ⟨b,0,none⟩)):=by
 obtain⟨j,hj,hjs⟩:=Option.map_eq_some_iff.1 xzka
 go_enter Tryd.func19,Tryd.ntmps19
 go_wp2;rw [Lib.run_to_unsafe w ⟨b,0,none⟩ Tryd.underlying48 Tryd.underlying87 hj (by rw [hjs];decide) hsh (by show 0<2;decide)];simp only [Result.andThen];rw [Oper.upon_value];go_wp2;rw [run_callFunc_extern Tryd.func35 (by kernel_rfl) (by kernel_rfl) (by kernel_rfl) (e:=Extern.AbiNoEscape.same) (by kernel_rfl)];rw [Lib.run_noEscape];simp only [Result.andThen];rw [Oper.upon_value];go_wp2;rw [Lib.run_from_unsafe w ⟨b,0,none⟩ Tryd.underlying87 Tryd.underlying48 hj hsh bq_lies];simp only [Result.andThen];rw [Oper.upon_value];go_wp2
 go_end0
 exact⟨rfl,rfl⟩
def KeepQ (w w':World):Prop:=w.heap.size<=w'.heap.size/\∀ (k:Nat) (t:TypeId) (cs:Array Value) (z:Nat×Nat),w.heap[k]? =some (.cells cs t z)->(t≠5\/z≠(0,0))->t≠51->w'.heap[k]? =some (.cells cs t z)
theorem KeepQ.refl (w:World):KeepQ w w:=⟨Nat.le_refl _,fun _ _ _ _ h _ _=>h⟩
theorem KeepQ.trans {u v w:World}(h:KeepQ u v)(h':KeepQ v w):KeepQ u w:=⟨Nat.le_trans h.1 h'.1,fun k t cs z hk h1 h2=>h'.2 k t cs z (h.2 k t cs z hk h1 h2) h1 h2⟩
theorem KeepQ.of {w w':World}(h:Below w.heap.size w w'):KeepQ w w':=⟨h.size,fun k _ _ _ hk _ _=>(h.block k (Array.getElem?_eq_some_iff.1 hk).1).trans hk⟩
theorem KeepQ.put {w:World}{b i:Nat}{cs:Array Value}(hb:BlkIs w b 51 cs)(x:Value):KeepQ w (w.setCell ⟨b,i,none⟩ x):=⟨by rw [World.size_setCell];exact Nat.le_refl _,fun k t cs' z hk _ h2=>by
 refine(Below.heap_setCell w ⟨b,i,none⟩ x k ?_).trans hk;intro e
 simp at e
 subst e;unfold BlkIs at hb;rw [hk]at hb
 simp at hb
 exact h2 hb.2.1⟩
theorem KeepQ.grown {w w':World}{B n:Nat}{v:Value}{xs:List Value}(ho:w.ownsRow B 5 1 v n xs)(hg:w.grownBy w' v.ownBlock):KeepQ w w':=⟨hg.size,fun k t cs z hk h1 _=>by
 refine(hg.block k (Array.getElem?_eq_some_iff.1 hk).1 fun e=>?_).trans hk
 rcases ho.2 with⟨rfl,_⟩|⟨g,cap,cur,rfl,_,h2,_⟩
 ·simp [Value.ownBlock]at e
 ·simp [Value.ownBlock]at e
  subst e;rw [h2]at hk
  simp at hk
  rcases h1 with h1|h1
  ·exact h1 hk.2.1.symm
  ·exact h1 hk.2.2.symm⟩
theorem BqAt.shape {B b:Nat}{p:Value}{bs:List Value}{w:World}(h:BqAt B b p bs w):w.shape? b=some (51,2):=by
 obtain⟨_,v,h1,_⟩:=h;unfold BlkIs at h1
 simp [World.shape?,h1]
theorem BqAt.put {B b:Nat}{bs':List Value}{p v v':Value}{w:World}(hB:B<=b)(hb:BlkIs w b 51 #[p,v])(hown:w.ownsRow B 5 1 v' bs'.length bs'):BqAt B b p bs' (w.setCell ⟨b,1,none⟩ v'):=by
 have hne:v'.ownBlock≠some b:=by
  rcases hown.2 with⟨rfl,_⟩|⟨g,cap,cur,rfl,h1,h2,_⟩
  ·simp [Value.ownBlock]
  ·intro e
   simp [Value.ownBlock]at e
   subst e;unfold BlkIs at hb;rw [h2]at hb
   simp at hb
 refine⟨hB,v',by simpa using hb.put 1 v',⟨hown.1,hown.2.imp id ?_⟩,hne⟩;rintro⟨g,cap,cur,rfl,a1,a2,a3⟩
 exact⟨g,cap,cur,rfl,a1,(Below.heap_setCell w ⟨b,1,none⟩ _ g (by
  intro e;simp at e;subst e;exact hne rfl)).trans a2,a3⟩
theorem xzkk (B b:Nat)(bs:List Value)(w:World)(h:IsBq B b bs w):
 Calls Tryd.prog 19 #[.pointer (some ⟨b,0,none⟩)] w fun e w'=>e=.returned (.tuple #[])/\(BqAt B b (.pointer (some ⟨b,0,none⟩)) bs w'/\Below B w w'/\KeepQ w w'):=by
 rcases h with h|h
 ·have hs:=h.shape
  obtain⟨hB,v,h1,h2,h3⟩:=h;refine(xzma b w (by simpa using h1.cell 0) hs (h1.frozen 0)).mono ?_;rintro e w' ⟨rfl,rfl⟩;refine⟨rfl,⟨hB,v,by simpa using h1.put 0 (.pointer (some ⟨b,0,none⟩)),⟨h2.1,h2.2.imp id ?_⟩,h3⟩,(Below.refl B w).setCell (p:=⟨b,0,none⟩) hB _,KeepQ.put h1 _⟩;rintro⟨g,cap,cur,rfl,a1,a2,a3⟩
  exact⟨g,cap,cur,rfl,a1,(Below.heap_setCell w ⟨b,0,none⟩ _ g (by
   intro e;simp at e;subst e;exact h3 rfl)).trans a2,a3⟩
 ·obtain⟨hB,v,h1,h2,h3⟩:=id h
  refine(xzkb b w (by simpa using h1.cell 0)).mono ?_;rintro e w' ⟨rfl,rfl⟩;exact⟨rfl,h,Below.refl B _,KeepQ.refl _⟩
theorem IsBq.at {B b:Nat}{bs:List Value}{w:World}(h:IsBq B b bs w):∃ p,BqAt B b p bs w:=by
 rcases h with h|h
 ·exact⟨_,h⟩
 ·exact⟨_,h⟩
set_option maxHeartbeats 2000000 in
set_option maxRecDepth 100000 in
theorem xzkl (B b:Nat)(bs:List Value)(c:Int)(w:World)(h:IsBq B b bs w)(hlen:bs.length+1<=140737488355328)(hBw:B<=w.heap.size):
 Calls Tryd.prog 10 #[.pointer (some ⟨b,0,none⟩),.int .u8 c] w fun e w'=>e=.returned .nilIface/\(BqAt B b (.pointer (some ⟨b,0,none⟩)) (bs++[.int .u8 c]) w'/\Below B w w'/\KeepQ w w'):=by
 obtain⟨i0,hi,hz0,hz1,hz2⟩:=info_parts xzby
 go_enter Tryd.func10,Tryd.ntmps10
 go_wp2_with(go_at_call 19;refine(xzkk B b bs _ h).mono ?_)
 rintro e w1 ⟨rfl,h1,hb1,hk1⟩;obtain⟨hB,v,hbk,hown,hne⟩:=h1
 have c0:w1.cell? ⟨b,0,none⟩=some (.pointer (some ⟨b,0,none⟩)):=by simpa using hbk.cell 0
 have c1:w1.cell? ⟨b,1,none⟩=some v:=by simpa using hbk.cell 1
 go_wp2_with(at_builtin;refine wpList_append_own _ rfl _ _ 49 rfl B 5 i0 (.int .u8 0) 1 1 Tryd.underlying49 hi hz0 hz1 hz2 rfl (by decide) _ _ _ rfl (hown.alloc _) ⟨w1.heap.size,0,none⟩ 1 1 [.int .u8 c] rfl rfl ?c1 ?c2 ?c3 ?c4 ?c5 ?_)
 case c1=>
  intro j u hj
  match j,hj with
  |0,hj=>simp at hj;subst hj;simp [Addr.add]
 case c2=>intro u hu;simp at hu;subst hu;rfl
 case c3=>unfold maxLen;omega
 case c4=>omega
 case c5=>have:=hb1.size;simp;omega
 intro v' w2 hown' hgrow _
 have hb2:BlkIs w2 b 51 #[.pointer (some ⟨b,0,none⟩),v]:=by
  have hlt:=hbk.lt;exact(hgrow.block b (by simp;omega) (fun e=>hne e.symm)).trans (hbk.alloc _)
 have d0:w2.cell? ⟨b,0,none⟩=some (.pointer (some ⟨b,0,none⟩)):=by simpa using hb2.cell 0
 have d1:w2.cell? ⟨b,1,none⟩=some v:=by simpa using hb2.cell 1
 have f1:w2.frozen? ⟨b,1,none⟩=false:=hb2.frozen 1;obtain⟨g,cap,rfl⟩:=xzag hown';have hbb:Below B w w2:=(hb1.alloc (by have:=hb1.size;omega) _).grown hgrow (by have:=hb1.size;simp;omega) (fun k hk=>(hown.lt k hk).1);have hkk:KeepQ w w2:=(hk1.trans (KeepQ.of ((Below.refl _ _).alloc (Nat.le_refl _) (.cells #[.int .u8 c] 5)))).trans (KeepQ.grown (hown.alloc _) hgrow);have HH:=zd (And.intro hb2 (And.intro hown' (And.intro hbb hkk)));clear hb2 hown' hbb hkk hk1 hgrow hbk hown hne hb1 c0 c1;go_wp2;go_ret;exact⟨rfl,BqAt.put (bs':=bs++[.int .u8 c]) hB HH.out.1 (by simpa using HH.out.2.1),HH.out.2.2.1.setCell (p:=⟨b,1,none⟩) hB _,HH.out.2.2.2.trans (KeepQ.put HH.out.1 _)⟩
set_option maxHeartbeats 2000000 in
set_option maxRecDepth 100000 in
theorem bq_str (B b:Nat)(bs:List Value)(s:ByteArray)(w:World)(h:IsBq B b bs w)(hlen:bs.length+s.size<=140737488355328)(hBw:B<=w.heap.size):
 Calls Tryd.prog 11 #[.pointer (some ⟨b,0,none⟩),.string s] w fun e w'=>e=.returned (.tuple #[.int .i64 s.size,.nilIface])/\(BqAt B b (.pointer (some ⟨b,0,none⟩)) (bs++Lib.strCells s) w'/\Below B w w'/\KeepQ w w'):=by
 obtain⟨i0,hi,hz0,hz1,hz2⟩:=info_parts xzby
 go_enter Tryd.func11,Tryd.ntmps11
 go_wp2_with(go_at_call 19;refine(xzkk B b bs _ h).mono ?_)
 rintro e w1 ⟨rfl,h1,hb1,hk1⟩;obtain⟨hB,v,hbk,hown,hne⟩:=h1
 have c0:w1.cell? ⟨b,0,none⟩=some (.pointer (some ⟨b,0,none⟩)):=by simpa using hbk.cell 0
 have c1:w1.cell? ⟨b,1,none⟩=some v:=by simpa using hbk.cell 1
 go_wp2_with(at_builtin;refine Lib.wpList_append_own_string _ rfl _ _ 49 9 rfl B 5 i0 Tryd.underlying49 Tryd.underlying9 hi hz0 hz1 hz2 _ _ _ rfl hown s rfl ?c3 ?c4 ?c5 ?_)
 case c3=>unfold maxLen;omega
 case c4=>omega
 case c5=>have:=hb1.size;omega
 intro v' w2 hown' hgrow _;have hb2:BlkIs w2 b 51 #[.pointer (some ⟨b,0,none⟩),v]:=(hgrow.block b hbk.lt (fun e=>hne e.symm)).trans hbk
 have d0:w2.cell? ⟨b,0,none⟩=some (.pointer (some ⟨b,0,none⟩)):=by simpa using hb2.cell 0
 have d1:w2.cell? ⟨b,1,none⟩=some v:=by simpa using hb2.cell 1
 have f1:w2.frozen? ⟨b,1,none⟩=false:=hb2.frozen 1;obtain⟨g,cap,rfl⟩:=xzag hown';have hbb:Below B w w2:=hb1.grown hgrow (by have:=hb1.size;omega) (fun k hk=>(hown.lt k hk).1);have hkk:KeepQ w w2:=hk1.trans (KeepQ.grown hown hgrow);have HH:=zd (And.intro hb2 (And.intro hown' (And.intro hbb hkk)));clear hb2 hown' hbb hkk hk1 hgrow hbk hown hne hb1 c0 c1;go_wp2
 go_ret2
 exact⟨rfl,BqAt.put (bs':=bs++Lib.strCells s) hB HH.out.1 (by simpa [Lib.strCells_length]using HH.out.2.1),HH.out.2.2.1.setCell (p:=⟨b,1,none⟩) hB _,HH.out.2.2.2.trans (KeepQ.put HH.out.1 _)⟩
set_option maxHeartbeats 1000000 in
set_option maxRecDepth 100000 in
theorem xzjp (B b:Nat)(l:List UInt8)(w:World)(h:IsBq B b (Lib.byteCells l) w)(h0:l≠[]):
 Calls Tryd.prog 13 #[.pointer (some ⟨b,0,none⟩)] w fun e w'=>e=.returned (.string ⟨l.toArray⟩)/\Below B w w':=by
 obtain⟨p,hB,v,hbk,hown,hne⟩:=h.at
 have mixed:Tryd.prog.follows .mixedOrders=true:=by kernel_rfl
 have hl0:l.length≠0:=by simpa using h0
 rw [Lib.byteCells_length]at hown
 obtain⟨g,cap,cur,rfl,hbg,hg,hnc,hcm,hcs,htake⟩:∃ g cap cur,v=.slice (some ⟨g,0,none⟩) l.length cap/\B<=g/\w.heap[g]? =some (.cells cur 5 (0,0))/\l.length<=cap/\cap<=maxLen/\cur.size=cap*1/\cur.toList.take (l.length*1)=Lib.byteCells l:=by
  rcases hown.2 with⟨_,hz⟩|⟨g,cap,cur,hv,r⟩
  ·exact absurd hz hl0
  ·exact⟨g,cap,cur,hv,r⟩
 have c1:w.drew.cell? ⟨b,1,none⟩=some (.slice (some ⟨g,0,none⟩) l.length cap):=by
  simpa using hbk.drew.cell 1
 have hSD:(Builtin.unsafeSliceData_ #[49] 70 #[.slice (some ⟨g,0,none⟩) l.length cap]).run Tryd.prog w.drew=.ok (.pointer (some ⟨g,0,none⟩)) w.drew:=
  Lib.run_unsafeSliceData_row _ _ _ _ _ _ (by omega)
 have hUS:(Builtin.unsafeString_ #[70,3] 9 #[.pointer (some ⟨g,0,none⟩),.int .i64 l.length]).run Tryd.prog w.drew=.ok (.string ⟨l.toArray⟩) (w.drew.freeze ⟨g,0,none⟩ l.length):=by
  refine Lib.run_unsafeString_row w.drew 70 3 9 5 Tryd.underlying70 xzcn g cur.size (by have hg':w.drew.heap[g]? =some (.cells cur 5 (0,0)):=hg;simp [World.shape?,hg']) l h0 (by omega) (by unfold maxLen at hcm;omega) ?_;intro j x hx;have:=hown.cells (g:=g) rfl j (.int .u8 x.toNat) (by simp [Lib.byteCells,hx]);exact this
 go_enter Tryd.func13,Tryd.ntmps13
 go_wp2
 go_region_o
 all_goals (go_wp2;go_ret;exact⟨rfl,Lib.below_freeze (Below.drew (Below.refl B w)) (p:=⟨g,0,none⟩) hbg _⟩)
end
section
open Go.Shelf Go.RowKit
attribute [local irreducible] FreeW textFrame
def quoteL (l:List UInt8):List UInt8:=[34]++l.flatMap (fun c=>qB c.toNat)++[34]
theorem qB_len (b:Nat):(qB b).length<=4:=by
 unfold qB
 repeat' split
 all_goals simp
theorem xzbm (l:List UInt8):(l.flatMap fun c=>qB c.toNat).length<=4*l.length:=by
 induction l with
 |nil=>simp
 |cons a r ih=>
  have:=qB_len a.toNat;simp only [List.flatMap_cons,List.length_append,List.length_cons];omega
theorem xzcf (l:List UInt8)(j:Nat)(h:j<l.length):((l.take (j+1)).flatMap fun c=>qB c.toNat)=((l.take j).flatMap fun c=>qB c.toNat)++qB l[j].toNat:=by
 rw [List.take_succ_eq_append_getElem h,List.flatMap_append]
 simp
theorem xzjq (s:ByteArray)(W:World)(g cap:Nat)(e:TypeId)(z:Nat×Nat)(hg:W.heap[g]? =some (.cells (bytesRow s cap) e z))(j:Nat)(h:j<s.size):W.cell? ⟨g,j,none⟩=some (.int .u8 ((s.data.toList[j]'(by rw [xzaf];exact h)).toNat:Nat)):=by
 rw [cell_of_row W g j (bytesRow s cap) e z hg];unfold bytesRow;have h':j<s.data.size:=h;rw [Array.getElem?_append_left (by rw [Array.size_map];exact h'),Array.getElem?_map,Array.getElem?_eq_getElem h']
 rfl
def QuAt (s:ByteArray)(w:World)(g cap j:Nat)(u:World):Prop:=
 IsBq w.heap.size w.heap.size (Lib.byteCells ([34]++((s.data.toList.take j).flatMap fun c=>qB c.toNat))) u/\Below w.heap.size w u/\u.heap[g]? =some (.cells (bytesRow s cap) 5 ((bytesRow s cap).size,(bytesRow s cap).size+1))
theorem xzjr (a b:List UInt8):Lib.byteCells a++Lib.strCells ⟨b.toArray⟩=Lib.byteCells (a++b):=by
 unfold Lib.byteCells;rw [List.map_append];rfl
set_option maxRecDepth 100000 in
set_option maxHeartbeats 4000000 in
theorem xzjs (s:ByteArray)(hs:s.size<=1073741824)(w:World):Calls Tryd.prog 5 #[.string s] w fun e w'=>e=.returned (.string ⟨(quoteL s.data.toList).toArray⟩)/\Below w.heap.size w w':=by
 have hb0:Below w.heap.size w (w.alloc (.cells #[.pointer none,.slice none 0 0] 51)):=(Below.refl _ _).alloc (Nat.le_refl _) _
 have hbi:IsBq w.heap.size w.heap.size [] (w.alloc (.cells #[.pointer none,.slice none 0 0] 51)):=
  .inl ⟨Nat.le_refl _,_,BlkIs.new w _ _,World.ownsRow_nil _ _ _ _,by simp [Value.ownBlock]⟩
 have H1:=zd (xzkl w.heap.size w.heap.size _ 34 _ hbi (by simp) hb0.size);have HB0:=zd hb0;clear hb0 hbi
 go_enter Tryd.func5,Tryd.ntmps5
 go_wp2_with fail
 go_at_call 10
 refine H1.out.mono ?_;rintro e w1 ⟨rfl,hb1,hu1, -⟩;have HB1:=zd (show IsBq w.heap.size w.heap.size (Lib.byteCells ([34]++((s.data.toList.take 0).flatMap fun c=>qB c.toNat))) w1/\Below w.heap.size w w1 from⟨.inr hb1,HB0.out.trans hu1⟩);have hcv:=run_bytes_of_string (P:=Tryd.prog) w1 9 49 5 s Tryd.underlying9 Tryd.underlying49 Tryd.underlying5;generalize grownCap w1 s.size 0 5=cap at hcv;have hbel:Below w1.heap.size w1 (w1.drew.alloc (.cells (bytesRow s cap) 5 ((bytesRow s cap).size,(bytesRow s cap).size+1))):=(Go.Proofs.YtgjfhbpmahgfcaaDoor.Below.drewN (Below.refl _ w1) 1).alloc (Nat.le_refl _) _
 have hrow:(w1.drew.alloc (.cells (bytesRow s cap) 5 ((bytesRow s cap).size,(bytesRow s cap).size+1))).heap[w1.heap.size]? =some (.cells (bytesRow s cap) 5 ((bytesRow s cap).size,(bytesRow s cap).size+1)):=by
  show(w1.heap.push _)[w1.heap.size]? =_
  simp
 generalize w1.drew.alloc (.cells (bytesRow s cap) 5 ((bytesRow s cap).size,(bytesRow s cap).size+1))=Wc at hcv hrow hbel;have H0:=zd (show QuAt s w w1.heap.size cap 0 Wc from⟨HB1.out.1.step hbel,HB1.out.2.trans (hbel.mono HB1.out.2.size),hrow⟩);clear hrow hbel hb1 hu1;have hsl:=xzaf s;go_wp2
 go_loopw [10] (fun i wr=>∃ j:Nat,i=.int .i64 j/\j<=s.size/\Hid (QuAt s w w1.heap.size cap j wr)) (fun i _=>s.size - (intOf i).toNat)
 case atStart=>exact⟨0,rfl,Nat.zero_le _,H0⟩
 case round=>
  obtain⟨j,rfl,hj,HH⟩:=hrel
  by_cases hp:j<s.size
  ·have hdl:decide ((j:Int)<(s.size:Int))=true:=by simp;omega
   have hcj:=xzjq s wr w1.heap.size cap _ _ HH.out.2.2 j hp
   have hk1:IntKind.i64.wrap ((j:Int)+1)=((j+1:Nat):Int):=by rw [IntKind.wrap_i64];omega
   have HT:=zd (xzcf s.data.toList j (by rw [hsl];exact hp));have hc:(s.data.toList[j]'(by rw [hsl];exact hp)).toNat<256:=UInt8.toNat_lt _;generalize(s.data.toList[j]'(by rw [hsl];exact hp)).toNat=c at hcj HT hc;have HQ:=zd (xzde c hc wr)
   have HW:=zd (fun(u:World) (hu:Below wr.heap.size wr u)=>bq_str w.heap.size w.heap.size (Lib.byteCells ([34]++((s.data.toList.take j).flatMap fun c=>qB c.toNat))) ⟨(qB c).toArray⟩ u (HH.out.1.step hu) (by
    rw [Lib.byteCells_length];have h1:=xzbm (s.data.toList.take j);have h2:=qB_len c
    have h3:(s.data.toList.take j).length<=s.size:=by rw [<-hsl,List.length_take];omega
    show _+(qB c).toArray.size<=_
    simp only [List.length_append,List.length_singleton,List.size_toArray]
    omega) (by have:=hu.size;have:=HH.out.2.1.size;omega))
   clear hc
   go_wp2_with(first
    |(go_at_call 12;refine HQ.out.mono ?_;rintro e w2 ⟨rfl,hu2⟩)
    |(go_at_call 11;refine(HW.out _ hu2).mono ?_;rintro e w3 ⟨rfl,hb3,hu3,hk3⟩))
   refine⟨⟨j+1,by go_num,hp,zd ⟨?_,HH.out.2.1.trans ((hu2.mono HH.out.2.1.size).trans hu3),?_⟩⟩,by simp [intOf];omega⟩
   ·rw [HT.out,<-List.append_assoc,<-xzjr];exact .inr hb3
   ·have hg:=HH.out.2.2
    refine hk3.2 _ _ _ _ ((hu2.block _ (Array.getElem?_eq_some_iff.1 hg).1).trans hg) (.inr (by simp)) (by decide)
  ·have hdl:decide ((j:Int)<(s.size:Int))=false:=by simp;omega
   obtain rfl:j=s.size:=by omega
   have HT:=zd (show Lib.byteCells ([34]++((s.data.toList.take s.size).flatMap fun c=>qB c.toNat))++[.int .u8 34]=Lib.byteCells (quoteL s.data.toList)by
    rw [<-hsl,List.take_length];unfold quoteL Lib.byteCells;simp)
   have HW:=zd (xzkl w.heap.size w.heap.size (Lib.byteCells ([34]++((s.data.toList.take s.size).flatMap fun c=>qB c.toNat))) 34 wr HH.out.1 (by
    rw [Lib.byteCells_length];have h1:=xzbm (s.data.toList.take s.size)
    have h3:(s.data.toList.take s.size).length<=s.size:=by rw [List.length_take];omega
    simp only [List.length_append,List.length_singleton]
    omega) HH.out.2.1.size)
   go_wp2_with(go_at_call 10;refine HW.out.mono ?_;rintro e w2 ⟨rfl,hb2,hu2, -⟩)
   rw [HT.out]at hb2;have HS:=zd (xzjp w.heap.size w.heap.size (quoteL s.data.toList) w2 (.inr hb2) (by unfold quoteL;simp));have HU:=zd hu2;clear hb2 hu2
   go_wp2_with(go_at_call 13;refine HS.out.mono ?_;rintro e w3 ⟨rfl,hu3⟩)
   go_ret;exact⟨rfl,HH.out.2.1.trans (HU.out.trans hu3)⟩
end
end Go.Proofs.YtgjfhbpmahgfcaaDoor
