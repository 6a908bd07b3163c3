/-
 WHAT EACH FUNCTION OF PACKAGE octs ANSWERS, at every argument and in every memory: contracts. No condition but those that a contract names.
-/
import Derived.Test.YtgjfhbpmahgfcaaDoorRows
import Derived.Lib.Hide
import Derived.Deep.RegionWith
import Derived.Deep.RegionHeld3
import Derived.BigQuiet
import Derived.Deep.MidRow
import Derived.Deep.WholeRow
import Derived.Test.YtgjfhbpmahgfcaaDoorQG01
namespace Go.Proofs.YtgjfhbpmahgfcaaDoor
section
open Go.RowKit
theorem xzes (m:Nat->Bool)(w:World):
 (Instr.index 30 (setV m) (.int .i64 0)).run Tryd.prog w=.ok (.int .u64 (wd m 0:Nat)) w/\
 (Instr.index 30 (setV m) (.int .i64 1)).run Tryd.prog w=.ok (.int .u64 (wd m 1:Nat)) w/\
 (Instr.index 30 (setV m) (.int .i64 2)).run Tryd.prog w=.ok (.int .u64 (wd m 2:Nat)) w/\
 (Instr.index 30 (setV m) (.int .i64 3)).run Tryd.prog w=.ok (.int .u64 (wd m 3:Nat)) w:=
 ⟨by kernel_rfl,by kernel_rfl,by kernel_rfl,by kernel_rfl⟩
set_option maxHeartbeats 400000 in
theorem xzkr (m n:Nat->Bool)(w:World):
 Calls Tryd.prog 90 #[setV m,setV n] w fun e w'=>e=.returned (setV (sLess m n))/\Below w.heap.size w w':=by
 have ix:=xzes n
 go_enter Tryd.func90,Tryd.ntmps90
 go_wp2;refine xzab 5 ?_
 go_wp2_with(refine xzae ?_;intro _ _)
 refine bodyPost_ret (v:=setV (sLess m n)) (by simp [results,Tryd.results90,go_sem,xzcu]) rfl ⟨rfl,?_⟩;exact(((Below.refl _ _).alloc (Nat.le_refl _) _).alloc (by simp) _).alloc (by simp;omega) _
set_option maxHeartbeats 400000 in
theorem not_any (m:Nat->Bool)(w:World):
 Calls Tryd.prog 93 #[setV m] w fun e w'=>e=.returned (setV (sNot m))/\Below w.heap.size w w':=by
 have ix:=xzes m
 go_enter Tryd.func93,Tryd.ntmps93
 go_wp2;refine xzab 5 ?_
 go_wp2_with(refine xzae ?_;intro _ _)
 refine bodyPost_ret (v:=setV (sNot m)) (by simp [results,Tryd.results93,go_sem,xzfh]) rfl ⟨rfl,?_⟩;exact((Below.refl _ _).alloc (Nat.le_refl _) _).alloc (by simp) _
set_option maxHeartbeats 400000 in
theorem xzii (x x1 x2 x3 x4 x5 x6 c:Nat)(w:World)
 (E1:IntKind.u64.wrap (bits .and .u64 ((x:Int) / 2) 6148914691236517205+bits .and .u64 (x:Int) 6148914691236517205)=(x1:Int))
 (E2:IntKind.u64.wrap (bits .and .u64 ((x1:Int) / 4) 3689348814741910323+bits .and .u64 (x1:Int) 3689348814741910323)=(x2:Int))
 (E3:bits .and .u64 (IntKind.u64.wrap ((x2:Int) / 16+(x2:Int))) 1085102592571150095=(x3:Int))
 (E4:IntKind.u64.wrap ((x3:Int)+(x3:Int) / 256)=(x4:Int))
 (E5:IntKind.u64.wrap ((x4:Int)+(x4:Int) / 65536)=(x5:Int))
 (E6:IntKind.u64.wrap ((x5:Int)+(x5:Int) / 4294967296)=(x6:Int))
 (E7:bits .and .i64 (wrap64 (x6:Int)) 127=(c:Int)):
 Calls Tryd.prog 87 #[.int .u64 x] w fun e w'=>e=.returned (.int .i64 c)/\w'=w:=by
 go_enter Tryd.func87,Tryd.ntmps87
 go_wp2;go_ret;exact⟨rfl,rfl⟩
theorem xzcv (m:Nat->Bool)(i:Nat)(w:World):
 Calls Tryd.prog 87 #[.int .u64 (wd m i:Nat)] w fun e w'=>e=.returned (.int .i64 (cntN (fun j=>m (64*i+j)) 64:Nat))/\w=w':=by
 obtain⟨x1,x2,x3,x4,x5,x6,e1,e2,e3,e4,e5,e6,e7⟩:=xzgp (fun j=>m (64*i+j)) (wd m i) rfl
 exact(xzii _ _ _ _ _ _ _ _ w e1 e2 e3 e4 e5 e6 e7).mono fun _ _ h=>⟨h.1,h.2.symm⟩
set_option maxHeartbeats 400000 in
theorem xzij (m:Nat->Bool)(w:World):
 Calls Tryd.prog 75 #[setV m] w fun e w'=>e=.returned (.int .i64 (cntN m 256:Nat))/\Below w.heap.size w w':=by
 have ix:=xzes m;have b0:=xzap (fun j=>m (64*0+j)) 64;have b1:=xzap (fun j=>m (64*1+j)) 64;have b2:=xzap (fun j=>m (64*2+j)) 64;have b3:=xzap (fun j=>m (64*3+j)) 64
 have hsum:cntN m 256=cntN (fun j=>m (64*0+j)) 64+cntN (fun j=>m (64*1+j)) 64+cntN (fun j=>m (64*2+j)) 64+cntN (fun j=>m (64*3+j)) 64:=by
  rw [show(256:Nat)=64+(64+(64+64))from rfl,xzal,xzal,xzal]
  have e0:(fun j=>m (64*0+j))=m:=funext fun j=>by rw [show 64*0+j=j by omega]
  have e1:(fun j=>m (64*1+j))=fun j=>m (64+j):=funext fun j=>by rw [show 64*1+j=64+j by omega]
  have e2:(fun j=>m (64*2+j))=fun j=>m (64+(64+j)):=funext fun j=>by rw [show 64*2+j=64+(64+j)by omega]
  have e3:(fun j=>m (64*3+j))=fun j=>m (64+(64+(64+j))):=funext fun j=>by rw [show 64*3+j=64+(64+(64+j))by omega]
  rw [e0,e1,e2,e3];omega
 have o0:=xzcv m 0;have o1:=xzcv m 1;have o2:=xzcv m 2;have o3:=xzcv m 3;generalize cntN (fun j=>m (64*0+j)) 64=c0 at*;generalize cntN (fun j=>m (64*1+j)) 64=c1 at*;generalize cntN (fun j=>m (64*2+j)) 64=c2 at*;generalize cntN (fun j=>m (64*3+j)) 64=c3 at*;generalize cntN m 256=c at*;have H0:=zd o0;have H1:=zd o1;have H2:=zd o2;have H3:=zd o3;have Hs:=zd hsum;clear o0 o1 o2 o3 hsum
 go_enter Tryd.func75,Tryd.ntmps75
 go_wp2;refine xzab 5 ?_
 go_wp2_with(first
  |(refine xzae ?_;intro _ _)
  |(go_at_call_of 87 (Value.int .u64 (wd m 0:Nat));refine(H0.out _).mono ?_;rintro e w' ⟨rfl,rfl⟩)
  |(go_at_call_of 87 (Value.int .u64 (wd m 1:Nat));refine(H1.out _).mono ?_;rintro e w' ⟨rfl,rfl⟩)
  |(go_at_call_of 87 (Value.int .u64 (wd m 2:Nat));refine(H2.out _).mono ?_;rintro e w' ⟨rfl,rfl⟩)
  |(go_at_call_of 87 (Value.int .u64 (wd m 3:Nat));refine(H3.out _).mono ?_;rintro e w' ⟨rfl,rfl⟩))
 go_ret;refine⟨ret_int ?_,(Below.refl _ _).alloc (Nat.le_refl _) _⟩;have:=Hs.out;omega
def belowIs (n:Int)(w:World):Ending->World->Prop:=fun e w'=>e=.returned (setV (sBelow n))/\Below w.heap.size w w'
set_option maxHeartbeats 400000 in
theorem xzik (n:Int)(h:n<=0)(w:World):Calls Tryd.prog 91 #[.int .i64 n] w (belowIs n w):=by
 go_enter Tryd.func91,Tryd.ntmps91
 go_wp2
 all_goals refine xzab 5 ?_
 all_goals go_wp2_with(refine xzae ?_;intro _ _)
 all_goals refine bodyPost_ret (v:=setV (sBelow n)) (by simp [results,Tryd.results91,go_sem,xzai n 0 (by omega),xzai n 1 (by omega),xzai n 2 (by omega),xzai n 3 (by omega)]<;>(repeat' apply And.intro)<;>first|with_reducible exact(xzay n n 0 (by omega) (by omega) (by omega)).trans (xzai n 0 (by omega))|with_reducible exact xzep) rfl ⟨rfl,?_⟩
 all_goals exact((Below.refl _ _).alloc (Nat.le_refl _) _).alloc (by simp) _
set_option maxHeartbeats 400000 in
theorem xzks (n:Int)(h0:0<n)(h1:n<=64)(w:World):Calls Tryd.prog 91 #[.int .i64 n] w (belowIs n w):=by
 go_enter Tryd.func91,Tryd.ntmps91
 go_wp2
 all_goals refine xzab 5 ?_
 all_goals go_wp2_with(refine xzae ?_;intro _ _)
 all_goals refine bodyPost_ret (v:=setV (sBelow n)) (by simp [results,Tryd.results91,go_sem,xzai n 1 (by omega),xzai n 2 (by omega),xzai n 3 (by omega)]<;>(repeat' apply And.intro)<;>first|with_reducible exact xzay n n 0 (by omega) (by omega) (by omega)|with_reducible exact(xzay n (n - 64) 1 (by omega) (by omega) (by omega)).trans (xzai n 1 (by omega))|with_reducible exact xzep) rfl ⟨rfl,?_⟩
 all_goals exact((Below.refl _ _).alloc (Nat.le_refl _) _).alloc (by simp) _
set_option maxHeartbeats 400000 in
theorem xzkt (n:Int)(h0:64<n)(h1:n<=128)(w:World):Calls Tryd.prog 91 #[.int .i64 n] w (belowIs n w):=by
 go_enter Tryd.func91,Tryd.ntmps91
 go_wp2
 all_goals refine xzab 5 ?_
 all_goals go_wp2_with(refine xzae ?_;intro _ _)
 all_goals refine bodyPost_ret (v:=setV (sBelow n)) (by simp [results,Tryd.results91,go_sem,xzai n 2 (by omega),xzai n 3 (by omega)]<;>(repeat' apply And.intro)<;>first|with_reducible exact xzao n 0 (by omega)|with_reducible exact xzay n (n - 64) 1 (by omega) (by omega) (by omega)|with_reducible exact(xzay n (n - 128) 2 (by omega) (by omega) (by omega)).trans (xzai n 2 (by omega))|with_reducible exact xzep) rfl ⟨rfl,?_⟩
 all_goals exact((Below.refl _ _).alloc (Nat.le_refl _) _).alloc (by simp) _
set_option maxHeartbeats 400000 in
theorem xzku (n:Int)(h0:128<n)(h1:n<=192)(w:World):Calls Tryd.prog 91 #[.int .i64 n] w (belowIs n w):=by
 go_enter Tryd.func91,Tryd.ntmps91
 go_wp2
 all_goals refine xzab 5 ?_
 all_goals go_wp2_with(refine xzae ?_;intro _ _)
 all_goals refine bodyPost_ret (v:=setV (sBelow n)) (by simp [results,Tryd.results91,go_sem,xzai n 3 (by omega)]<;>(repeat' apply And.intro)<;>first|with_reducible exact xzao n 0 (by omega)|with_reducible exact xzao n 1 (by omega)|with_reducible exact xzay n (n - 128) 2 (by omega) (by omega) (by omega)|with_reducible exact(xzay n (n - 192) 3 (by omega) (by omega) (by omega)).trans (xzai n 3 (by omega))|with_reducible exact xzep) rfl ⟨rfl,?_⟩
 all_goals exact((Below.refl _ _).alloc (Nat.le_refl _) _).alloc (by simp) _
set_option maxHeartbeats 400000 in
theorem xzkv (n:Int)(h0:192<n)(h1:n<=256)(w:World):Calls Tryd.prog 91 #[.int .i64 n] w (belowIs n w):=by
 go_enter Tryd.func91,Tryd.ntmps91
 go_wp2
 all_goals refine xzab 5 ?_
 all_goals go_wp2_with(refine xzae ?_;intro _ _)
 all_goals refine bodyPost_ret (v:=setV (sBelow n)) (by simp [results,Tryd.results91,go_sem]<;>(repeat' apply And.intro)<;>first|with_reducible exact xzao n 0 (by omega)|with_reducible exact xzao n 1 (by omega)|with_reducible exact xzao n 2 (by omega)|with_reducible exact xzay n (n - 192) 3 (by omega) (by omega) (by omega)) rfl ⟨rfl,?_⟩
 all_goals exact((Below.refl _ _).alloc (Nat.le_refl _) _).alloc (by simp) _
set_option maxHeartbeats 400000 in
theorem xzil (n:Int)(h0:256<n)(h1:n<=9223372036854775807)(w:World):Calls Tryd.prog 91 #[.int .i64 n] w (belowIs n w):=by
 go_enter Tryd.func91,Tryd.ntmps91
 go_wp2
 all_goals refine xzab 5 ?_
 all_goals go_wp2_with(refine xzae ?_;intro _ _)
 all_goals refine bodyPost_ret (v:=setV (sBelow n)) (by simp [results,Tryd.results91,go_sem]<;>(repeat' apply And.intro)<;>first|with_reducible exact xzao n 0 (by omega)|with_reducible exact xzao n 1 (by omega)|with_reducible exact xzao n 2 (by omega)|with_reducible exact xzao n 3 (by omega)) rfl ⟨rfl,?_⟩
 all_goals exact((Below.refl _ _).alloc (Nat.le_refl _) _).alloc (by simp) _
theorem xzim (n:Int)(hn:n<=9223372036854775807)(w:World):Calls Tryd.prog 91 #[.int .i64 n] w (belowIs n w):=by
 by_cases h:n<=0
 ·exact xzik n h w
 by_cases h1:n<=64
 ·exact xzks n (by omega) h1 w
 by_cases h2:n<=128
 ·exact xzkt n (by omega) h2 w
 by_cases h3:n<=192
 ·exact xzku n (by omega) h3 w
 by_cases h4:n<=256
 ·exact xzkv n (by omega) h4 w
 ·exact xzil n (by omega) hn w
end
section
open Go.RowKit
theorem xzar (d:Nat)(xs ys:Array Value)(j:Nat)(js:List Nat)(a b:Int)(w:World)
 (ha:(part 28 xs (j*1)).run Tryd.prog w=.ok (.int .u64 a) w)(hb:(part 28 ys (j*1)).run Tryd.prog w=.ok (.int .u64 b) w):
 (Op.eqItems (d+1) 28 1 xs ys (j::js)).run Tryd.prog w=if a=b then(Op.eqItems (d+1) 28 1 xs ys js).run Tryd.prog w else .ok false w:=by
 have h64:=run_equalIn_int (P:=Tryd.prog) w d 28 .u64 .u64 a b Tryd.underlying28;simp only [Op.eqItems,Sem.run_bind,ha,hb,Result.andThen_ok,h64]
 by_cases h:a=b
 ·simp [h]
 ·have h2:(a==b)=false:=by simpa using h
  simp [h,h2]
theorem xzgq (m n:Nat->Bool)(w:World):(binOp .eql 30 (setV m) (setV n)).run Tryd.prog w=.ok (.bool (setEq m n)) w:=by
 have hp0:∀ (k:Nat->Bool),(part 28 #[.int .u64 (wd k 0:Nat),.int .u64 (wd k 1:Nat),.int .u64 (wd k 2:Nat),.int .u64 (wd k 3:Nat)] (0*1)).run Tryd.prog w=.ok (.int .u64 (wd k 0:Nat)) w:=fun k=>by kernel_rfl
 have hp1:∀ (k:Nat->Bool),(part 28 #[.int .u64 (wd k 0:Nat),.int .u64 (wd k 1:Nat),.int .u64 (wd k 2:Nat),.int .u64 (wd k 3:Nat)] (1*1)).run Tryd.prog w=.ok (.int .u64 (wd k 1:Nat)) w:=fun k=>by kernel_rfl
 have hp2:∀ (k:Nat->Bool),(part 28 #[.int .u64 (wd k 0:Nat),.int .u64 (wd k 1:Nat),.int .u64 (wd k 2:Nat),.int .u64 (wd k 3:Nat)] (2*1)).run Tryd.prog w=.ok (.int .u64 (wd k 2:Nat)) w:=fun k=>by kernel_rfl
 have hp3:∀ (k:Nat->Bool),(part 28 #[.int .u64 (wd k 0:Nat),.int .u64 (wd k 1:Nat),.int .u64 (wd k 2:Nat),.int .u64 (wd k 3:Nat)] (3*1)).run Tryd.prog w=.ok (.int .u64 (wd k 3:Nat)) w:=fun k=>by kernel_rfl
 have e:(Op.equalIn 10000 30 (setV m) (setV n)).run Tryd.prog w=.ok (setEq m n) w:=by
  obtain⟨i,hi⟩:∃ i,Tryd.prog.info? 28=some i:=Option.isSome_iff_exists.1 (by kernel_rfl)
  have hc:Tryd.prog.cellsOf 28=1:=by kernel_rfl
  have h:=run_equalIn_array (P:=Tryd.prog) w 9999 #[.int .u64 (wd m 0:Nat),.int .u64 (wd m 1:Nat),.int .u64 (wd m 2:Nat),.int .u64 (wd m 3:Nat)]
   #[.int .u64 (wd n 0:Nat),.int .u64 (wd n 1:Nat),.int .u64 (wd n 2:Nat),.int .u64 (wd n 3:Nat)] Tryd.underlying30 hi
  rw [hc,show List.range 4=[0,1,2,3]from rfl]at h;rw [xzar 9998 _ _ 0 _ _ _ w (hp0 m) (hp0 n),xzar 9998 _ _ 1 _ _ _ w (hp1 m) (hp1 n),xzar 9998 _ _ 2 _ _ _ w (hp2 m) (hp2 n),xzar 9998 _ _ 3 _ _ _ w (hp3 m) (hp3 n)]at h;refine h.trans ?_;unfold setEq;simp only [Int.natCast_inj]
  by_cases h0:wd m 0=wd n 0
  ·by_cases h1:wd m 1=wd n 1
   ·by_cases h2:wd m 2=wd n 2
    ·by_cases h3:wd m 3=wd n 3
     ·rw [if_pos h0,if_pos h1,if_pos h2,if_pos h3,h0,h1,h2,h3];simp [Op.eqItems]
     ·rw [if_pos h0,if_pos h1,if_pos h2,if_neg h3];simp [h3]
    ·rw [if_pos h0,if_pos h1,if_neg h2];simp [h2]
   ·rw [if_pos h0,if_neg h1];simp [h1]
  ·rw [if_neg h0];simp [h0]
 have h2:=run_eql_struct (P:=Tryd.prog) w 30 #[.int .u64 (wd m 0:Nat),.int .u64 (wd m 1:Nat),.int .u64 (wd m 2:Nat),.int .u64 (wd m 3:Nat)]
  #[.int .u64 (wd n 0:Nat),.int .u64 (wd n 1:Nat),.int .u64 (wd n 2:Nat),.int .u64 (wd n 3:Nat)]
 refine h2.trans ?_;have e':(Op.equalIn 10000 30 (.agg #[.int .u64 (wd m 0:Nat),.int .u64 (wd m 1:Nat),.int .u64 (wd m 2:Nat),.int .u64 (wd m 3:Nat)]) (.agg #[.int .u64 (wd n 0:Nat),.int .u64 (wd n 1:Nat),.int .u64 (wd n 2:Nat),.int .u64 (wd n 3:Nat)])).run Tryd.prog w=.ok (setEq m n) w:=e;rw [e'];rfl
def BoxIs (g:Nat)(m:Nat->Bool)(w:World):Prop:=
 w.cell? ⟨g,0,none⟩=some (.int .u64 (wd m 0:Nat))/\w.cell? ⟨g,1,none⟩=some (.int .u64 (wd m 1:Nat))/\
 w.cell? ⟨g,2,none⟩=some (.int .u64 (wd m 2:Nat))/\w.cell? ⟨g,3,none⟩=some (.int .u64 (wd m 3:Nat))
theorem BoxIs.below {g:Nat}{m:Nat->Bool}{W W':World}(h:BoxIs g m W)(hb:Below W.heap.size W W')(hg:g<W.heap.size):BoxIs g m W':=
 ⟨(hb.cell (p:=⟨g,0,none⟩) hg).trans h.1,(hb.cell (p:=⟨g,1,none⟩) hg).trans h.2.1,(hb.cell (p:=⟨g,2,none⟩) hg).trans h.2.2.1,(hb.cell (p:=⟨g,3,none⟩) hg).trans h.2.2.2⟩
end
section
open Go.RowKit
def BlkIs (w:World)(g:Nat)(t:TypeId)(cs:Array Value):Prop:=w.heap[g]? =some (.cells cs t (0,0))
section
variable {w W' : World} {g : Nat} {t : TypeId} {cs : Array Value}
theorem BlkIs.lt (h:BlkIs w g t cs):g<w.heap.size:=by
 rcases Nat.lt_or_ge g w.heap.size with hlt|hge
 ·exact hlt
 ·unfold BlkIs at h;rw [Array.getElem?_eq_none hge]at h;cases h
theorem BlkIs.cell (h:BlkIs w g t cs)(i:Nat):w.cell? ⟨g,i,none⟩=cs[i]? :=cell_of_row w g i cs t (0,0) h
theorem BlkIs.frozen (h:BlkIs w g t cs)(i:Nat):w.frozen? ⟨g,i,none⟩=false:=by
 unfold BlkIs at h;simp [World.frozen?,h]
theorem BlkIs.new (w:World)(t:TypeId)(cs:Array Value):BlkIs (w.alloc (.cells cs t)) w.heap.size t cs:=by
 show(w.heap.push _)[w.heap.size]? =_
 simp
theorem BlkIs.alloc (h:BlkIs w g t cs)(o:Obj):BlkIs (w.alloc o) g t cs:=(Below.heap_alloc w o g h.lt).trans h
theorem BlkIs.drew (h:BlkIs w g t cs):BlkIs w.drew g t cs:=h
theorem BlkIs.below {B:Nat}(h:BlkIs w g t cs)(hb:Below B w W')(hg:g<B):BlkIs W' g t cs:=(hb.block g hg).trans h
theorem BlkIs.step (h:BlkIs w g t cs)(hb:Below w.heap.size w W'):BlkIs W' g t cs:=h.below hb h.lt
theorem BlkIs.far (h:BlkIs w g t cs){p:Addr}(hp:g≠p.block)(u:Value):BlkIs (w.setCell p u) g t cs:=(Below.heap_setCell w p u g hp).trans h
theorem BlkIs.put (h:BlkIs w g t cs)(i:Nat)(u:Value):BlkIs (w.setCell ⟨g,i,none⟩ u) g t (cs.setIfInBounds i u):=by
 unfold BlkIs at h ⊢
 simp [World.setCell,Array.getElem?_modify,h]
theorem BlkIs.four {a b c d:Value}(h:BlkIs w g t #[a,b,c,d]):w.cell? ⟨g,0,none⟩=some a/\w.cell? ⟨g,1,none⟩=some b/\w.cell? ⟨g,2,none⟩=some c/\w.cell? ⟨g,3,none⟩=some d/\
 w.frozen? ⟨g,0,none⟩=false/\w.frozen? ⟨g,1,none⟩=false/\w.frozen? ⟨g,2,none⟩=false/\w.frozen? ⟨g,3,none⟩=false:=
 ⟨h.cell 0,h.cell 1,h.cell 2,h.cell 3,h.frozen 0,h.frozen 1,h.frozen 2,h.frozen 3⟩
theorem BlkIs.range (h:BlkIs w g t cs):w.rangeAt g 0 cs.toList:=fun j v hv=>by
 rw [Nat.zero_add,h.cell j];simpa using hv
theorem BlkIs.there (h:BlkIs w g t cs):w.there g 0 cs.size:=fun j hj=>by
 rw [Nat.zero_add,h.cell j];exact⟨by simp [hj],h.frozen j⟩
end
theorem BlkIs.sized {g:Nat}{t:TypeId}:∀ (vs:List Value) (o:Nat) (w:World) (cs:Array Value),BlkIs w g t cs->∃ cs',BlkIs (w.setCells g o vs) g t cs'/\cs'.size=cs.size
 |[],_,_,cs,h=>⟨cs,h,rfl⟩
 |v::r,o,w,cs,h=>by
  rw [World.setCells];obtain⟨cs',h1,h2⟩:=BlkIs.sized r (o+1) _ _ (h.put o v);exact⟨cs',h1,by rw [h2];simp⟩
theorem BlkIs.fill {w:World}{g:Nat}{t:TypeId}{cs new:Array Value}(h:BlkIs w g t cs)(hs:new.size=cs.size):BlkIs (w.setCells g 0 new.toList) g t new:=by
 obtain⟨cs',h1,h2⟩:=BlkIs.sized new.toList 0 w cs h;have hr:=World.rangeAt_setCells_same w g 0 new.toList (by rw [Array.length_toList,hs];exact h.there)
 have e:cs'=new:=by
  apply Array.ext (by rw [h2,hs])
  intro i hi hi';have a:=hr i new[i] (by simp [hi']);rw [Nat.zero_add,h1.cell i]at a
  simpa [hi]using a
 rw [<-e];rw [<-e]at h1;exact h1
theorem xzak {fn:Func}{p:Tmp}{ty:TypeId}{tmps:Array Value}{P:Program}{w w':World}{a:Addr}{v:Value}(h:fn.results=#[.cell p ty])
 (hp:tmps.getD p undef=.pointer (some a))(hl:(loadVar ty a).run P w=.ok v w'):(results fn tmps).run P w=.ok v w':=by
 have hp':tmps[p]?.getD undef=.pointer (some a):=by rw [<-hp];simp
 unfold results;rw [h]
 simp [hp',asAddr,hl]
def bools (f:Nat->Bool):Array Value:=((List.range 256).map fun i=>Value.bool (f i)).toArray
theorem xzba (f:Nat->Bool):(bools f).size=256:=by simp [bools]
theorem xzbu (f:Nat->Bool){i:Nat}(h:i<256):(bools f)[i]? =some (.bool (f i)):=by
 unfold bools;rw [List.getElem?_toArray,List.getElem?_map,List.getElem?_range h];rfl
theorem xzck {f g:Nat->Bool}(h:∀ i,i<256->f i=g i):bools f=bools g:=by
 unfold bools;rw [List.map_congr_left (fun i hi=>by rw [h i (List.mem_range.1 hi)])]
def updS (f:Nat->Bool)(i:Nat)(v:Bool):Nat->Bool:=fun j=>if j=i then v else f j
theorem xzin (f:Nat->Bool)(i:Nat)(v:Bool):(bools f).setIfInBounds i (.bool v)=bools (updS f i v):=by
 apply Array.ext_getElem?
 intro j
 by_cases hj:j<256
 ·rw [Array.getElem?_setIfInBounds,xzbu _ hj,xzbu _ hj,xzba]
  unfold updS
  by_cases e:i=j
  ·subst e;simp [hj]
  ·have e': ¬ j=i:=fun h=>e h.symm
   simp [e,e']
 ·rw [Array.getElem?_eq_none (by rw [Array.size_setIfInBounds,xzba];omega),Array.getElem?_eq_none (by rw [xzba];omega)]
theorem xzio (f:Nat->Bool):Value.agg (bools f).toList.toArray=.agg (bools f):=by simp
end
section
open Go.RowKit
theorem xzgr (x k:Nat):x / 2^k / 2=x / 2^(k+1):=by rw [Nat.div_div_eq_div_mul,Nat.pow_succ]
def shW (f:Nat->Bool)(c i:Nat):Nat:=wd f i / 2^(min 64 (c - 64*i))
theorem xzac {f:Nat->Bool}{b i:Nat}(h:b / 64≠i):shW f b i=shW f (b+1) i:=by
 unfold shW
 have:min 64 (b - 64*i)=min 64 (b+1 - 64*i):=by omega
 rw [this]
theorem xzbb {f:Nat->Bool}{b q:Nat}(h:b / 64=q):shW f b q=2*shW f (b+1) q+(if f b then 1 else 0):=by
 unfold shW
 have e1:min 64 (b - 64*q)=b%64:=by omega
 have e2:min 64 (b+1 - 64*q)=b%64+1:=by omega
 rw [e1,e2];have ht:=xzah f q (b%64);rw [show 64*q+b%64=b by omega,Nat.testBit_eq_decide_div_mod_eq]at ht
 have h64:b%64<64:=by omega
 simp only [h64,decide_true,Bool.true_and]at ht;rw [<-xzgr];generalize wd f q / 2^(b%64)=y at*
 cases hf:f b
 ·rw [hf]at ht;have: ¬ y%2=1:=of_decide_eq_false ht;simp;omega
 ·rw [hf]at ht;have:y%2=1:=of_decide_eq_true ht;simp;omega
theorem xzan {f:Nat->Bool}{b q:Nat}(h:b / 64=q):shW f (b+1) q<9223372036854775808:=by
 unfold shW
 have e2:min 64 (b+1 - 64*q)=b%64+1:=by omega
 rw [e2,<-xzgr];have h1:wd f q / 2^(b%64)<=wd f q:=Nat.div_le_self _ _;have h2:=xzgj f q;omega
theorem xzkw (f:Nat->Bool)(i:Nat):shW f 0 i=wd f i:=by simp [shW]
theorem xzet (f:Nat->Bool){i:Nat}(hi:i<4):shW f 256 i=0:=by
 unfold shW;rw [show min 64 (256 - 64*i)=64 by omega];exact Nat.div_eq_of_lt (xzgj _ _)
set_option maxHeartbeats 1000000 in
theorem xzkx (f:Nat->Bool)(w:World):
 Calls Tryd.prog 15 #[.agg (bools f)] w fun e w'=>e=.returned (setV f)/\Below w.heap.size w w':=by
 go_enter Tryd.func15,Tryd.ntmps15
 go_wp2
 go_loopw [4] (fun s wr=>∃ (z:Int) (y0 y1 y2 y3:Nat), -1<=z/\z<256/\s=.int .i64 z/\y0<18446744073709551616/\y1<18446744073709551616/\y2<18446744073709551616/\y3<18446744073709551616/\
  Hid (y0=shW f (z+1).toNat 0/\y1=shW f (z+1).toNat 1/\y2=shW f (z+1).toNat 2/\y3=shW f (z+1).toNat 3)/\
  wr=((w.alloc (.cells (bools f) 62)).alloc (.cells #[.int .u64 0,.int .u64 0,.int .u64 0,.int .u64 0] 30)).alloc (.cells #[.int .u64 (y0:Nat),.int .u64 (y1:Nat),.int .u64 (y2:Nat),.int .u64 (y3:Nat)] 30))
  (fun s _=>(intOf s+1).toNat)
 case atStart=>
  exact⟨255,0,0,0,0,by omega,by omega,rfl,by omega,by omega,by omega,by omega,zd ⟨(xzet f (by omega)).symm,(xzet f (by omega)).symm,(xzet f (by omega)).symm,(xzet f (by omega)).symm⟩,rfl⟩
 case round=>
  obtain⟨z,y0,y1,y2,y3,hz0,hz1,rfl,h0,h1,h2,h3,HY,rfl⟩:=hrel
  by_cases hz:0<=z
  ·obtain⟨b,rfl⟩:=Int.eq_ofNat_of_zero_le hz
   have hb:b<256:=by omega
   have hbg:=xzbu f hb
   have hcase:b / 64=0\/b / 64=1\/b / 64=2\/b / 64=3:=by omega
   rw [show((b:Int)+1).toNat=b+1 by omega]at HY
   cases hfb:f b
   ·rw [hfb]at hbg
    rcases hcase with hq|hq|hq|hq
    ·have hqi:(b:Int) / 64=0:=by omega
     have hsm:y0<9223372036854775808:=by rw [HY.out.1];exact xzan hq
     have hnew:shW f b 0=2*y0+0:=by rw [xzbb hq,<-HY.out.1,hfb];rfl
     have HN:=zd hnew;have HQ:=zd hq;clear hnew hq hfb;go_wp2;refine⟨⟨(b:Int) - 1,(2*y0),y1,y2,y3,by omega,by omega,rfl,by omega,by omega,by omega,by omega,?_,?_⟩,by simp [intOf]⟩
     ·rw [show((b:Int) - 1+1).toNat=b by omega]
      exact zd ⟨HN.out.symm,(HY.out.2.1.trans (xzac (by rw [HQ.out];decide)).symm),(HY.out.2.2.1.trans (xzac (by rw [HQ.out];decide)).symm),(HY.out.2.2.2.trans (xzac (by rw [HQ.out];decide)).symm)⟩
     ·have e:(y0:Int)*2=((2*y0:Nat):Int):=by omega
      rw [e]
    ·have hqi:(b:Int) / 64=1:=by omega
     have hsm:y1<9223372036854775808:=by rw [HY.out.2.1];exact xzan hq
     have hnew:shW f b 1=2*y1+0:=by rw [xzbb hq,<-HY.out.2.1,hfb];rfl
     have HN:=zd hnew;have HQ:=zd hq;clear hnew hq hfb;go_wp2;refine⟨⟨(b:Int) - 1,y0,(2*y1),y2,y3,by omega,by omega,rfl,by omega,by omega,by omega,by omega,?_,?_⟩,by simp [intOf]⟩
     ·rw [show((b:Int) - 1+1).toNat=b by omega]
      exact zd ⟨(HY.out.1.trans (xzac (by rw [HQ.out];decide)).symm),HN.out.symm,(HY.out.2.2.1.trans (xzac (by rw [HQ.out];decide)).symm),(HY.out.2.2.2.trans (xzac (by rw [HQ.out];decide)).symm)⟩
     ·have e:(y1:Int)*2=((2*y1:Nat):Int):=by omega
      rw [e]
    ·have hqi:(b:Int) / 64=2:=by omega
     have hsm:y2<9223372036854775808:=by rw [HY.out.2.2.1];exact xzan hq
     have hnew:shW f b 2=2*y2+0:=by rw [xzbb hq,<-HY.out.2.2.1,hfb];rfl
     have HN:=zd hnew;have HQ:=zd hq;clear hnew hq hfb;go_wp2;refine⟨⟨(b:Int) - 1,y0,y1,(2*y2),y3,by omega,by omega,rfl,by omega,by omega,by omega,by omega,?_,?_⟩,by simp [intOf]⟩
     ·rw [show((b:Int) - 1+1).toNat=b by omega]
      exact zd ⟨(HY.out.1.trans (xzac (by rw [HQ.out];decide)).symm),(HY.out.2.1.trans (xzac (by rw [HQ.out];decide)).symm),HN.out.symm,(HY.out.2.2.2.trans (xzac (by rw [HQ.out];decide)).symm)⟩
     ·have e:(y2:Int)*2=((2*y2:Nat):Int):=by omega
      rw [e]
    ·have hqi:(b:Int) / 64=3:=by omega
     have hsm:y3<9223372036854775808:=by rw [HY.out.2.2.2];exact xzan hq
     have hnew:shW f b 3=2*y3+0:=by rw [xzbb hq,<-HY.out.2.2.2,hfb];rfl
     have HN:=zd hnew;have HQ:=zd hq;clear hnew hq hfb;go_wp2;refine⟨⟨(b:Int) - 1,y0,y1,y2,(2*y3),by omega,by omega,rfl,by omega,by omega,by omega,by omega,?_,?_⟩,by simp [intOf]⟩
     ·rw [show((b:Int) - 1+1).toNat=b by omega]
      exact zd ⟨(HY.out.1.trans (xzac (by rw [HQ.out];decide)).symm),(HY.out.2.1.trans (xzac (by rw [HQ.out];decide)).symm),(HY.out.2.2.1.trans (xzac (by rw [HQ.out];decide)).symm),HN.out.symm⟩
     ·have e:(y3:Int)*2=((2*y3:Nat):Int):=by omega
      rw [e]
   ·rw [hfb]at hbg
    rcases hcase with hq|hq|hq|hq
    ·have hqi:(b:Int) / 64=0:=by omega
     have hsm:y0<9223372036854775808:=by rw [HY.out.1];exact xzan hq
     have hnew:shW f b 0=2*y0+1:=by rw [xzbb hq,<-HY.out.1,hfb];rfl
     have HN:=zd hnew;have HQ:=zd hq;clear hnew hq hfb;go_wp2;refine⟨⟨(b:Int) - 1,(2*y0+1),y1,y2,y3,by omega,by omega,rfl,by omega,by omega,by omega,by omega,?_,?_⟩,by simp [intOf]⟩
     ·rw [show((b:Int) - 1+1).toNat=b by omega]
      exact zd ⟨HN.out.symm,(HY.out.2.1.trans (xzac (by rw [HQ.out];decide)).symm),(HY.out.2.2.1.trans (xzac (by rw [HQ.out];decide)).symm),(HY.out.2.2.2.trans (xzac (by rw [HQ.out];decide)).symm)⟩
     ·have e:(y0:Int)*2+1=((2*y0+1:Nat):Int):=by omega
      rw [e]
    ·have hqi:(b:Int) / 64=1:=by omega
     have hsm:y1<9223372036854775808:=by rw [HY.out.2.1];exact xzan hq
     have hnew:shW f b 1=2*y1+1:=by rw [xzbb hq,<-HY.out.2.1,hfb];rfl
     have HN:=zd hnew;have HQ:=zd hq;clear hnew hq hfb;go_wp2;refine⟨⟨(b:Int) - 1,y0,(2*y1+1),y2,y3,by omega,by omega,rfl,by omega,by omega,by omega,by omega,?_,?_⟩,by simp [intOf]⟩
     ·rw [show((b:Int) - 1+1).toNat=b by omega]
      exact zd ⟨(HY.out.1.trans (xzac (by rw [HQ.out];decide)).symm),HN.out.symm,(HY.out.2.2.1.trans (xzac (by rw [HQ.out];decide)).symm),(HY.out.2.2.2.trans (xzac (by rw [HQ.out];decide)).symm)⟩
     ·have e:(y1:Int)*2+1=((2*y1+1:Nat):Int):=by omega
      rw [e]
    ·have hqi:(b:Int) / 64=2:=by omega
     have hsm:y2<9223372036854775808:=by rw [HY.out.2.2.1];exact xzan hq
     have hnew:shW f b 2=2*y2+1:=by rw [xzbb hq,<-HY.out.2.2.1,hfb];rfl
     have HN:=zd hnew;have HQ:=zd hq;clear hnew hq hfb;go_wp2;refine⟨⟨(b:Int) - 1,y0,y1,(2*y2+1),y3,by omega,by omega,rfl,by omega,by omega,by omega,by omega,?_,?_⟩,by simp [intOf]⟩
     ·rw [show((b:Int) - 1+1).toNat=b by omega]
      exact zd ⟨(HY.out.1.trans (xzac (by rw [HQ.out];decide)).symm),(HY.out.2.1.trans (xzac (by rw [HQ.out];decide)).symm),HN.out.symm,(HY.out.2.2.2.trans (xzac (by rw [HQ.out];decide)).symm)⟩
     ·have e:(y2:Int)*2+1=((2*y2+1:Nat):Int):=by omega
      rw [e]
    ·have hqi:(b:Int) / 64=3:=by omega
     have hsm:y3<9223372036854775808:=by rw [HY.out.2.2.2];exact xzan hq
     have hnew:shW f b 3=2*y3+1:=by rw [xzbb hq,<-HY.out.2.2.2,hfb];rfl
     have HN:=zd hnew;have HQ:=zd hq;clear hnew hq hfb;go_wp2;refine⟨⟨(b:Int) - 1,y0,y1,y2,(2*y3+1),by omega,by omega,rfl,by omega,by omega,by omega,by omega,?_,?_⟩,by simp [intOf]⟩
     ·rw [show((b:Int) - 1+1).toNat=b by omega]
      exact zd ⟨(HY.out.1.trans (xzac (by rw [HQ.out];decide)).symm),(HY.out.2.1.trans (xzac (by rw [HQ.out];decide)).symm),(HY.out.2.2.1.trans (xzac (by rw [HQ.out];decide)).symm),HN.out.symm⟩
     ·have e:(y3:Int)*2+1=((2*y3+1:Nat):Int):=by omega
      rw [e]
  ·have hz':z= -1:=by omega
   subst hz';obtain⟨rfl,rfl,rfl,rfl⟩:=HY.out;clear HY;simp only [show(-1+1:Int).toNat=0 from rfl,xzkw]at*;go_wp2;refine bodyPost_ret (v:=setV f) (by simp [results,Tryd.results15,go_sem]) rfl ⟨rfl,?_⟩;exact(((Below.refl _ _).alloc (Nat.le_refl _) _).alloc (by simp) _).alloc (by simp;omega) _
def sRng (lo b:Nat):Nat->Bool:=fun j=>decide (lo<=j)&&decide (j<b)
theorem zero24 (w:World):(zeroValue 62).run Tryd.prog w=.ok (.agg (bools fun _=>false)) w:=
 (zero_of_info (P:=Tryd.prog) (t:=62) (v:=.agg (bools fun _=>false)) (n:=256) (by kernel_rfl)).1 w
theorem info24:(Tryd.prog.info? 62).map (·.size)=some 256:=by kernel_rfl
set_option maxHeartbeats 400000 in
theorem xzec (lo hi:Nat)(hhi:hi<256)(w:World):
 Calls Tryd.prog 8 #[.int .i64 lo,.int .i64 hi] w fun e w'=>e=.returned (setV (sRange lo hi))/\Below w.heap.size w w':=by
 have z24:=zero24
 go_enter Tryd.func8,Tryd.ntmps8
 go_wp2
 go_loopw [6] (fun s wr=>∃ b:Nat,lo<=b/\(b<=hi+1\/b=lo)/\s=.int .i64 b/\
  wr=(w.alloc (.cells #[.int .u64 0,.int .u64 0,.int .u64 0,.int .u64 0] 30)).alloc (.cells (bools (sRng lo b)) 62))
  (fun s _=>256 - (intOf s).toNat)
 case atStart=>
  refine⟨lo,Nat.le_refl _,.inr rfl,rfl,?_⟩;rw [xzck (f:=sRng lo lo) (g:=fun _=>false) (fun i _=>by unfold sRng;rw [Bool.eq_false_iff];simp)]
 case round=>
  obtain⟨b,hb0,hb1,rfl,rfl⟩:=hrel
  by_cases hlt:b<=hi
  ·have hb:b<256:=by omega
   have hbg:=xzbu (sRng lo b) hb;have hsz:=xzba (sRng lo b);go_wp2;refine⟨⟨b+1,by omega,by omega,by go_num,?_⟩,by simp [intOf];omega⟩
   rw [xzin,xzck (f:=updS (sRng lo b) b true) (g:=sRng lo (b+1)) (fun i _=>by
    unfold updS sRng
    by_cases e:i=b
    ·subst e;simp [hb0]
    ·rw [if_neg e,Bool.eq_iff_iff];simp;omega)]
  ·have hset:setV (sRange lo hi)=setV (sRng lo b):=xzgl fun j _=>by
    unfold sRange sRng;rw [Bool.eq_iff_iff];simp;omega
   have HS:=zd hset;clear hset
   have hblk:BlkIs ((w.alloc (.cells #[.int .u64 0,.int .u64 0,.int .u64 0,.int .u64 0] 30)).alloc (.cells (bools (sRng lo b)) 62)) (w.heap.size+1) 62 (bools (sRng lo b)):=by
    have:=BlkIs.new (w.alloc (.cells #[.int .u64 0,.int .u64 0,.int .u64 0,.int .u64 0] 30)) 62 (bools (sRng lo b))
    simpa using this
   have hR:=hblk.range
   have hI:(Tryd.prog.info? 62).map (·.size)=some (bools (sRng lo b)).toList.length:=by rw [info24,Array.length_toList,xzba]
   clear hblk;have HI:=zd hI;have HR:=zd hR;clear hI hR
   go_wp2_with(first
    |(refine wpList_load_mid rfl 62 (.tmp 5) rfl (w.heap.size+1) 0 rfl (bools (sRng lo b)).toList _ HR.out Tryd.underlying62 rfl HI.out ?_;rw [xzio])
    |(go_at_call 15;refine(xzkx _ _).mono ?_;rintro e w1 ⟨rfl,hb1⟩;obtain⟨hc1,hf1,hz1⟩:=belowStep (g:=w.heap.size) hb1 (by simp;omega)))
   have hB1:Below w.heap.size w w1:=(((Below.refl _ _).alloc (Nat.le_refl _) _).alloc (by simp) _).trans (hb1.mono (by simp;omega));refine bodyPost_ret (v:=setV (sRng lo b)) (by simp [results,Tryd.results8,go_sem,hc1]) rfl ⟨congrArg Ending.returned HS.out.symm,?_⟩;exact(((hB1.setCell (p:=⟨w.heap.size,0,none⟩) (Nat.le_refl _) _).setCell (p:=⟨w.heap.size,1,none⟩) (Nat.le_refl _) _).setCell (p:=⟨w.heap.size,2,none⟩) (Nat.le_refl _) _).setCell (p:=⟨w.heap.size,3,none⟩) (Nat.le_refl _) _
end
end Go.Proofs.YtgjfhbpmahgfcaaDoor
