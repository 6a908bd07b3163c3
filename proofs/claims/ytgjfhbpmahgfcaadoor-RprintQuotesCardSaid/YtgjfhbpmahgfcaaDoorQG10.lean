/-
 ITERATORS THAT TELL TREES, TO WHATEVER LOOP: what a caller of such an iterator says is said with the blocks that it holds ('O'): who leaves these as they lie leaves what is said as it is. The law of 'range over a function' over such an iterator. No condition.
-/
import Derived.RangeFuncNested
import Derived.RangeFuncWrites
import Derived.RangeFuncBound
import Derived.RangeFuncCalls
import Derived.RangeFuncLeaves
import Derived.Lib.Bytealg
import Derived.BigQuiet
import Derived.WalkLawsBesides
import Derived.Test.YtgjfhbpmahgfcaaDoorQG09
import Derived.Test.YtgjfhbpmahgfcaaDoorQG07
namespace Go.Proofs.YtgjfhbpmahgfcaaDoor
section
open Go.RowKit
structure Far (O:Nat->Prop)(W W':World):Prop where
 os:W'.os=W.os
 tape:W'.tape=W.tape
 output:W'.output=W.output
 size:W.heap.size<=W'.heap.size
 far:∀ k,k<W.heap.size-> ¬ O k->W'.heap[k]? =W.heap[k]?
def InN (O:Nat->Prop)(W:World)(O':Nat->Prop):Prop:=∀ k,O' k->O k\/W.heap.size<=k
theorem InN.refl (O:Nat->Prop)(W:World):InN O W O:=fun _ h=>.inl h
theorem InN.trans {O O' O2:Nat->Prop}{A B:World}(h:InN O A O')(k:InN O' B O2)(hs:A.heap.size<=B.heap.size):InN O A O2:=fun x hx=>by
 rcases k x hx with g|g
 ·exact h x g
 ·exact .inr (by omega)
theorem Far.refl (O:Nat->Prop)(W:World):Far O W W:=⟨rfl,rfl,rfl,Nat.le_refl _,fun _ _ _=>rfl⟩
theorem Far.trans {O O':Nat->Prop}{A B C:World}(h:Far O A B)(hi:InN O A O')(k:Far O' B C):Far O A C:=
 ⟨k.os.trans h.os,k.tape.trans h.tape,k.output.trans h.output,Nat.le_trans h.size k.size,fun x hx hn=>(k.far x (Nat.lt_of_lt_of_le hx h.size) (fun g=>(hi x g).elim hn (by omega))).trans (h.far x hx hn)⟩
theorem Far.mono {O O':Nat->Prop}{A B:World}(h:Far O A B)(hi:∀ k,O k->O' k):Far O' A B:=⟨h.os,h.tape,h.output,h.size,fun k hk hn=>h.far k hk (fun g=>hn (hi k g))⟩
theorem Far.of_below {O:Nat->Prop}{W W':World}(h:Below W.heap.size W W'):Far O W W':=⟨h.os,h.tape,h.output,h.size,fun k hk _=>h.block k hk⟩
theorem Far.below {O:Nat->Prop}{W W':World}{n:Nat}(h:Far O W W')(hn:n<=W.heap.size)(hO:∀ k,O k->n<=k):Below n W W':=
 ⟨h.os,h.tape,h.output,h.size,fun k hk=>h.far k (by omega) (fun g=>by have:=hO k g;omega)⟩
theorem Far.alloc {O:Nat->Prop}{W W':World}(h:Far O W W')(o:Obj):Far O W (W'.alloc o):=h.trans (InN.refl O W) (Far.of_below ((Below.refl _ _).alloc (Nat.le_refl _) o))
structure Near (O:Nat->Prop)(W W':World):Prop where
 size:W.heap.size<=W'.heap.size
 near:∀ k,O k->W'.heap[k]? =W.heap[k]?
abbrev Held:=(Nat->Prop)->World->Prop
structure Holder (J:Held):Prop where
 lt:∀ O W,J O W->∀ k,O k->k<W.heap.size
 keep:∀ O W W',J O W->Near O W W'->J O W'
theorem Far.near {O O':Nat->Prop}{W W':World}(h:Far O W W')(hl:∀ k,O' k->k<W.heap.size)(hd:∀ k,O' k-> ¬ O k):Near O' W W':=⟨h.size,fun k hk=>h.far k (hl k hk) (hd k hk)⟩
theorem xzlk {O:Nat->Prop}{W:World}{l:Nat}(o:Obj)(hO: ¬ O l):Near O W (W.putObj l o):=⟨by simp,fun k hk=>World.putObj_heap_other (fun e=>hO (e▸hk))⟩
theorem Near.trans {O:Nat->Prop}{A B C:World}(h:Near O A B)(k:Near O B C):Near O A C:=⟨Nat.le_trans h.size k.size,fun x hx=>(k.near x hx).trans (h.near x hx)⟩
def NextIs (O:Nat->Prop)(W:World)(J:Held)(W':World):Prop:=∃ O',J O' W'/\InN O W O'/\Far O W W'
theorem NextIs.refl {O:Nat->Prop}{W:World}{J:Held}(h:J O W):NextIs O W J W:=⟨O,h,InN.refl O W,Far.refl O W⟩
theorem NextIs.mono {O:Nat->Prop}{W W':World}{J J':Held}(h:NextIs O W J W')(hj:∀ O,J O W'->J' O W'):NextIs O W J' W':=h.imp fun O' h=>⟨hj O' h.1,h.2⟩
theorem NextIs.wide {O O2:Nat->Prop}{W W':World}{J:Held}(h:NextIs O W J W')(hs:∀ k,O k->O2 k):NextIs O2 W J W':=by
 obtain⟨O',h1,h2,h3⟩:=h;exact⟨O',h1,fun k hk=>(h2 k hk).imp (hs k) id,h3.mono hs⟩
theorem NextIs.trans {O:Nat->Prop}{A B C:World}{J J':Held}(h:NextIs O A J B)(hk:∀ O',J O' B->NextIs O' B J' C):NextIs O A J' C:=by
 obtain⟨O1,h1,h2,h3⟩:=h;obtain⟨O2,k1,k2,k3⟩:=hk O1 h1;exact⟨O2,k1,h2.trans k2 h3.size,h3.trans h2 k3⟩
def Clear (V:World)(O:Nat->Prop):Prop:=∀ p v,V.cell? p=some v-> ¬ O p.block
theorem Sub.far {V W W':World}{O:Nat->Prop}(hs:Sub V W)(hc:Clear V O)(hf:Far O W W'):Sub V W':=fun p v hv=>by
 have h1:=hs p v hv;rw [World.cell?_of_block (w:=W)]
 ·exact h1
 ·exact hf.far _ (World.block_lt_of_cell? W p h1) (hc p v hv)
theorem YieldAt.anyN {n m:Nat}{P:Program}{l:Nat}{args:Array Value}{W:World}{R:Ending->World->Prop}(h:YieldAt Fence.wide n P l args W R):YieldAt Fence.wide m P l args W R:=by
 obtain⟨fn,tmps,assign,body,h1,h2⟩:=h;exact⟨fn,tmps,assign,body,h1,h2.1,fun c cs _=>h2.2 c cs (room_wide _)⟩
end
section
open Go.RowKit
def voidB (k:Int)(m:Nat->Bool):Bool:=(k==1)&&setEq m (fun _=>false)
def Tree.isV (t:Tree):Bool:=voidB t.kind t.set
set_option maxRecDepth 10000 in
theorem xzhf (lo hi:Int)(w:World):Calls Tryd.prog 81 #[.int .i64 lo,.int .i64 hi] w fun e w'=>e=.returned (.bool ((lo==0)&&(hi== -1)))/\w'=w:=by
 generalize hk:(lo==0)=y at*;generalize hq:(hi== -1)=z at*
 cases y<;>cases z
 all_goals
  go_enter Tryd.func81,Tryd.ntmps81
  go_wp2;go_ret;exact⟨rfl,rfl⟩
end
section
open Go.RowKit
def hexL (d:Nat):UInt8:=if d<10 then UInt8.ofNat (48+d)else UInt8.ofNat (87+d)
def oneL (signs:List UInt8)(b:Nat):List UInt8:=
 if b=10 then [92,110]else if b=13 then [92,114]else if b=9 then [92,116]
 else if 0<=Lib.indexByte signs (UInt8.ofNat b)then [92,(UInt8.ofNat b)]else if 32<=b/\b<=126 then [(UInt8.ofNat b)]
 else [92,120,hexL (b / 16),hexL (b%16)]
def strV (l:List UInt8):Value:=.string ⟨l.toArray⟩
set_option maxRecDepth 100000 in
theorem xzll (s:ByteArray)(c:Int)(w:World):Calls Tryd.prog 88 #[.string s,.int .u8 c] w fun e w'=>e=.returned (.int .i64 (Lib.indexByte s.data.toList c.toNat.toUInt8))/\w'=w:=by
 have h:∀ w,(callFunc 100 #[.string s,.int .u8 c]).run Tryd.prog w=.ok (.value (.int .i64 (Lib.indexByte s.data.toList c.toNat.toUInt8))) w:=fun w=>by
  rw [run_callFunc_extern Tryd.func100 (by kernel_rfl) (by kernel_rfl) (by kernel_rfl) (by kernel_rfl),Lib.run_indexByteString]
  rfl
 go_enter Tryd.func88,Tryd.ntmps88
 go_wp2;go_ret;exact⟨rfl,rfl⟩
theorem and15:∀ b:Fin 256,bits .and .u8 ((b.val:Nat):Int) 15=((b.val%16:Nat):Int):=by decide+kernel
theorem hex_fin:∀ d:Fin 16,((⟨#[48,49,50,51,52,53,54,55,56,57,97,98,99,100,101,102]⟩:ByteArray).data.getD d.val 0)=hexL d.val:=by decide+kernel
theorem xzez (x:Int)(h:x.toNat<16)(h':x.toNat<(⟨#[48,49,50,51,52,53,54,55,56,57,97,98,99,100,101,102]⟩:ByteArray).size):(⟨#[48,49,50,51,52,53,54,55,56,57,97,98,99,100,101,102]⟩:ByteArray)[x.toNat]=hexL x.toNat:=by
 have:=hex_fin ⟨x.toNat,h⟩;rw [<-this]
 show _=Array.getD _ _ _
 unfold Array.getD
 split
 ·rfl
 ·rename_i hq
  exact absurd h' hq
theorem xzfa (a b:Array UInt8):(ByteArray.mk a)++(ByteArray.mk b)=ByteArray.mk (a++b):=by
 apply ByteArray.ext
 simp
set_option maxRecDepth 100000 in
theorem xzhg (l:List UInt8)(u:World):(convert 49 9 (.slice (some ⟨u.heap.size,0,none⟩) l.length l.length)).run Tryd.prog (u.alloc (.cells (l.map (fun x=>Value.int .u8 (x.toNat:Nat))).toArray 5))=.ok (strV l) (u.alloc (.cells (l.map (fun x=>Value.int .u8 (x.toNat:Nat))).toArray 5)):=
 run_convert_bytes_back (P:=Tryd.prog) (u.alloc (.cells (l.map (fun x=>Value.int .u8 (x.toNat:Nat))).toArray 5)) 49 9 5 ⟨u.heap.size,0,none⟩ l.length l Tryd.underlying49 Tryd.underlying5 Tryd.underlying9 (fun t ht=>by
  have h:=(BlkIs.new u 5 (l.map (fun x=>Value.int .u8 (x.toNat:Nat))).toArray).cell t;rw [Addr.add_lit,Nat.zero_add,h]
  simp [ht])
set_option maxRecDepth 100000 in
set_option maxHeartbeats 4000000 in
theorem xzei (b:Nat)(hb:b<256)(s:ByteArray)(w:World):Calls Tryd.prog 76 #[.int .u8 b,.string s] w fun e w'=>e=.returned (strV (oneL s.data.toList b))/\Below w.heap.size w w':=by
 have HI:=zd (fun u=>xzll s (b:Int) u);have e0:((b:Int).toNat).toUInt8=(UInt8.ofNat b):=rfl;rw [e0]at HI;unfold oneL;have hB1:=(Below.refl w.heap.size w).alloc (Nat.le_refl _) (.cells #[.int .u8 (b:Int)] 5)
 by_cases h10:b=10
 ·subst h10
  go_enter Tryd.func76,Tryd.ntmps76
  go_wp2;go_ret;exact⟨rfl,Below.refl _ _⟩
 have e10:((b:Int)==10)=false:=by simp;omega
 by_cases h13:b=13
 ·subst h13
  go_enter Tryd.func76,Tryd.ntmps76
  go_wp2;go_ret;exact⟨rfl,Below.refl _ _⟩
 have e13:((b:Int)==13)=false:=by simp;omega
 by_cases h9:b=9
 ·subst h9
  go_enter Tryd.func76,Tryd.ntmps76
  go_wp2;go_ret;exact⟨rfl,Below.refl _ _⟩
 have e9:((b:Int)==9)=false:=by simp;omega
 rw [if_neg h10,if_neg h13,if_neg h9];generalize hix:Lib.indexByte s.data.toList (UInt8.ofNat b)=ix at*;have HB:=zd hB1;clear hB1
 have hb8:(UInt8.ofNat b).toNat=b:=by rw [UInt8.toNat_ofNat'];omega
 have HCV:=zd (fun u=>xzhg [(UInt8.ofNat b)] u);simp only [List.map_cons,List.map_nil,List.length_cons,List.length_nil,hb8,Nat.zero_add,strV]at HCV;have HCW:=zd (fun u=>xzhg [hexL (b / 16),hexL (b%16)] u);simp only [List.map_cons,List.map_nil,List.length_cons,List.length_nil,Nat.zero_add,Nat.reduceAdd,strV]at HCW
 by_cases hpos:0<=ix
 ·have ei:decide (ix>=0)=true:=decide_eq_true hpos
  go_enter Tryd.func76,Tryd.ntmps76
  go_wp2_with(first|(go_at_call 88;go_must(refine(HI.out _).mono ?_);rintro e w2 ⟨rfl,rfl⟩;have hcv:=HCV.out w2))
  go_ret;refine⟨?_,HB.out⟩;exact congrArg (fun x=>Ending.returned (.string x)) (xzfa #[92] #[UInt8.ofNat b])
 ·have ei:decide (ix>=0)=false:=decide_eq_false hpos
  rw [if_neg hpos]
  by_cases h32:32<=b
  ·have e32:decide ((b:Int)>=32)=true:=decide_eq_true (by omega)
   by_cases h126:b<=126
   ·have e126:decide ((b:Int)<=126)=true:=decide_eq_true (by omega)
    go_enter Tryd.func76,Tryd.ntmps76
    go_wp2_with(first|(go_at_call 88;go_must(refine(HI.out _).mono ?_);rintro e w2 ⟨rfl,rfl⟩;have hcv:=HCV.out w2))
    go_ret;refine⟨?_,HB.out⟩;exact congrArg (fun x=>Ending.returned (.string x)) (xzfa #[] #[UInt8.ofNat b])
   ·have e126:decide ((b:Int)<=126)=false:=decide_eq_false (by omega)
    go_enter Tryd.func76,Tryd.ntmps76
    go_wp2_with(first|(go_at_call 88;go_must(refine(HI.out _).mono ?_);rintro e w2 ⟨rfl,rfl⟩))
    refine wp_region_held_drew (S:=fun u=>Below w2.heap.size w2 u) (by kernel_rfl) ((Below.refl _ _).drew) ?_;intro hS0
    refine wpAnyH_take (i:=0) (v:=.int .u8 (b:Int)) rfl (by kernel_rfl) (by kernel_rfl) (by kernel_rfl) (fun _ _ _ h=>h) (.inl ⟨rfl,fun u hu=>by
     go_simp⟩) hS0 ?_
    refine wpAnyH_take (i:=3) (v:=.int .u8 (b:Int)) rfl (by kernel_rfl) (by kernel_rfl) (by kernel_rfl) (fun _ _ _ h=>h) (.inl ⟨rfl,fun u hu=>by
     go_simp⟩) hS0 ?_
    refine wpAnyH_take (i:=1) (v:=.int .u8 ((b / 16:Nat):Int)) rfl (by kernel_rfl) (by kernel_rfl) (by kernel_rfl) (fun _ _ _ h=>h) (.inl ⟨rfl,fun u hu=>by
     go_simp⟩) hS0 ?_
    refine wpAnyH_take (i:=4) (v:=.int .u8 ((b%16:Nat):Int)) rfl (by kernel_rfl) (by kernel_rfl) (by kernel_rfl) (fun _ _ _ h=>h) (.inl ⟨rfl,fun u hu=>by
     go_simp
     exact and15 ⟨b,hb⟩⟩) hS0 ?_
    refine wpAnyH_take (i:=2) (v:=.int .u8 ((hexL (b / 16)).toNat:Int)) rfl (by kernel_rfl) (by kernel_rfl) (by kernel_rfl) (fun _ _ _ h=>h) (.inl ⟨rfl,fun u hu=>by
     go_simp;rw [dif_pos (⟨by omega,by omega⟩:0<=(b:Int) / 16/\(b:Int) / 16<16),xzez _ (by omega)]
     have e:((b:Int) / 16).toNat=b / 16:=by omega
     rw [e]
     rfl⟩) hS0 ?_
    refine wpAnyH_take (i:=5) (v:=.int .u8 ((hexL (b%16)).toNat:Int)) rfl (by kernel_rfl) (by kernel_rfl) (by kernel_rfl) (fun _ _ _ h=>h) (.inl ⟨rfl,fun u hu=>by
     go_simp;rw [dif_pos (⟨by omega,by omega⟩:0<=(b:Int)%16/\(b:Int)%16<16),xzez _ (by omega)]
     have e:((b:Int)%16).toNat=b%16:=by omega
     rw [e]
     rfl⟩) hS0 ?_
    generalize hU0:World.drew _=U0 at*;have hcv:=HCW.out U0;refine wpAnyH_ready (rs:=[6]) (by kernel_rfl) (by simp) ?_;refine AllReadyH.cons rfl (fun K hK=>?_) AllReadyH.nil;go_simp;refine hK.out _ _ (hS0.alloc hS0.size _) (fun hS1=>?_);clear hK K;refine wpAnyH_ready (rs:=[7]) (by kernel_rfl) (by simp) ?_;refine AllReadyH.cons rfl (fun K hK=>?_) AllReadyH.nil;go_simp;refine hK.out _ _ hS1 (fun hS2=>?_);clear hK K hcv;refine wpAnyH_ready (rs:=[8]) (by kernel_rfl) (by simp) ?_;refine AllReadyH.cons rfl (fun K hK=>?_) AllReadyH.nil;go_simp;refine hK.out _ _ hS1 (fun hS3=>?_);clear hK K;refine wpAnyH_ready (rs:=[9]) (by kernel_rfl) (by simp) ?_;refine AllReadyH.cons rfl (fun K hK=>?_) AllReadyH.nil;go_simp;refine hK.out _ _ hS1 (fun hS4=>?_);clear hK K;refine wpAnyH_done (by kernel_rfl) ?_ _;go_wp2;go_ret;refine⟨?_,hS1⟩;exact congrArg (fun x=>Ending.returned (.string x)) (xzfa #[92,120] #[hexL (b / 16),hexL (b%16)])
  ·have e32:decide ((b:Int)>=32)=false:=decide_eq_false (by omega)
   go_enter Tryd.func76,Tryd.ntmps76
   go_wp2_with(first|(go_at_call 88;go_must(refine(HI.out _).mono ?_);rintro e w2 ⟨rfl,rfl⟩))
   refine wp_region_held_drew (S:=fun u=>Below w2.heap.size w2 u) (by kernel_rfl) ((Below.refl _ _).drew) ?_;intro hS0
   refine wpAnyH_take (i:=0) (v:=.int .u8 (b:Int)) rfl (by kernel_rfl) (by kernel_rfl) (by kernel_rfl) (fun _ _ _ h=>h) (.inl ⟨rfl,fun u hu=>by
    go_simp⟩) hS0 ?_
   refine wpAnyH_take (i:=3) (v:=.int .u8 (b:Int)) rfl (by kernel_rfl) (by kernel_rfl) (by kernel_rfl) (fun _ _ _ h=>h) (.inl ⟨rfl,fun u hu=>by
    go_simp⟩) hS0 ?_
   refine wpAnyH_take (i:=1) (v:=.int .u8 ((b / 16:Nat):Int)) rfl (by kernel_rfl) (by kernel_rfl) (by kernel_rfl) (fun _ _ _ h=>h) (.inl ⟨rfl,fun u hu=>by
    go_simp⟩) hS0 ?_
   refine wpAnyH_take (i:=4) (v:=.int .u8 ((b%16:Nat):Int)) rfl (by kernel_rfl) (by kernel_rfl) (by kernel_rfl) (fun _ _ _ h=>h) (.inl ⟨rfl,fun u hu=>by
    go_simp
    exact and15 ⟨b,hb⟩⟩) hS0 ?_
   refine wpAnyH_take (i:=2) (v:=.int .u8 ((hexL (b / 16)).toNat:Int)) rfl (by kernel_rfl) (by kernel_rfl) (by kernel_rfl) (fun _ _ _ h=>h) (.inl ⟨rfl,fun u hu=>by
    go_simp;rw [dif_pos (⟨by omega,by omega⟩:0<=(b:Int) / 16/\(b:Int) / 16<16),xzez _ (by omega)]
    have e:((b:Int) / 16).toNat=b / 16:=by omega
    rw [e]
    rfl⟩) hS0 ?_
   refine wpAnyH_take (i:=5) (v:=.int .u8 ((hexL (b%16)).toNat:Int)) rfl (by kernel_rfl) (by kernel_rfl) (by kernel_rfl) (fun _ _ _ h=>h) (.inl ⟨rfl,fun u hu=>by
    go_simp;rw [dif_pos (⟨by omega,by omega⟩:0<=(b:Int)%16/\(b:Int)%16<16),xzez _ (by omega)]
    have e:((b:Int)%16).toNat=b%16:=by omega
    rw [e]
    rfl⟩) hS0 ?_
   generalize hU0:World.drew _=U0 at*;have hcv:=HCW.out U0;refine wpAnyH_ready (rs:=[6]) (by kernel_rfl) (by simp) ?_;refine AllReadyH.cons rfl (fun K hK=>?_) AllReadyH.nil;go_simp;refine hK.out _ _ (hS0.alloc hS0.size _) (fun hS1=>?_);clear hK K;refine wpAnyH_ready (rs:=[7]) (by kernel_rfl) (by simp) ?_;refine AllReadyH.cons rfl (fun K hK=>?_) AllReadyH.nil;go_simp;refine hK.out _ _ hS1 (fun hS2=>?_);clear hK K hcv;refine wpAnyH_ready (rs:=[8]) (by kernel_rfl) (by simp) ?_;refine AllReadyH.cons rfl (fun K hK=>?_) AllReadyH.nil;go_simp;refine hK.out _ _ hS1 (fun hS3=>?_);clear hK K;refine wpAnyH_ready (rs:=[9]) (by kernel_rfl) (by simp) ?_;refine AllReadyH.cons rfl (fun K hK=>?_) AllReadyH.nil;go_simp;refine hK.out _ _ hS1 (fun hS4=>?_);clear hK K;refine wpAnyH_done (by kernel_rfl) ?_ _;go_wp2;go_ret;refine⟨?_,hS1⟩;exact congrArg (fun x=>Ending.returned (.string x)) (xzfa #[92,120] #[hexL (b / 16),hexL (b%16)])
end
section
open Go.RowKit
def timesB (l0 hm l1 h1 ne gt:Bool)(a b:ByteArray):ByteArray:=
 if(l0&&hm)then⟨#[42]⟩else if(l1&&hm)then⟨#[43]⟩else if(l0&&h1)then⟨#[63]⟩
 else if ne then(if gt then((⟨#[123]⟩++((a++⟨#[44]⟩)++b))++⟨#[125]⟩)else((⟨#[123]⟩++(a++⟨#[44]⟩))++⟨#[125]⟩))
 else(if gt then((⟨#[123]⟩++(a++b))++⟨#[125]⟩)else((⟨#[123]⟩++a)++⟨#[125]⟩))
set_option maxRecDepth 100000 in
set_option maxHeartbeats 16000000 in
theorem xziz (lo hi:Int)(a b:ByteArray)(ha:a.size<=100)(hb:b.size<=100)(w:World)
 (HA:∀ u:World,Calls Tryd.prog 31 #[.int .i64 lo] u fun e u'=>e=.returned (.string a)/\u'=u)(HB:∀ u:World,hi≠lo->decide (hi>lo)=true->Calls Tryd.prog 31 #[.int .i64 hi] u fun e u'=>e=.returned (.string b)/\u'=u):
 Calls Tryd.prog 66 #[.int .i64 lo,.int .i64 hi] w fun e w'=>e=.returned (.string (timesB (lo==0) (hi== -1) (lo==1) (hi==1) (hi != lo) (decide (hi>lo)) a b))/\w'=w:=by
 have HS:=zd (fun u=>xzhf lo hi u);have HAA:=zd HA
 have hne:decide (hi>lo)=true->hi≠lo:=fun h e=>by subst e;simp at h
 have HBB:=zd (fun u (h:decide (hi>lo)=true)=>HB u (hne h) h);clear HA HB hne;unfold timesB
 cases l0:(lo==0)<;>cases hm:(hi== -1)<;>cases l1:(lo==1)<;>cases h1:(hi==1)<;>cases ne:(hi != lo)<;>cases gt:(decide (hi>lo))
 all_goals
  rw [l0,hm]at HS
  go_enter Tryd.func66,Tryd.ntmps66
  go_wp2_with(first
   |(go_at_call 81;go_must(refine(HS.out _).mono ?_);rintro e u ⟨rfl,rfl⟩)
   |(go_at_call_of 31 (Value.int .i64 lo);go_must(refine(HAA.out _).mono ?_);rintro e u ⟨rfl,rfl⟩)
   |(go_at_call_of 31 (Value.int .i64 hi);go_must(refine(HBB.out _ gt).mono ?_);rintro e u ⟨rfl,rfl⟩))
  go_ret;exact⟨rfl,rfl⟩
end
end Go.Proofs.YtgjfhbpmahgfcaaDoor
