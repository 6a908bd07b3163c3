/-
 WHAT THE REST OF PACKAGE octs ANSWERS: Of, Has: contracts. No condition but those that a contract names.
-/
import Derived.Deep.RegionHeld3
import Derived.BigQuiet
import Derived.Deep.MidRow
import Derived.Deep.WholeRow
import Derived.Test.YtgbljnnmhmlifaaGreatDoorQG01
namespace Go.Proofs.YtgbljnnmhmlifaaGreatDoor
section
open Go.RowKit
def ByteRow (w:World)(B:Nat)(A:Option Addr)(l:List Nat):Prop:=
 l≠[]->∃ b off,A=some ⟨b,off,none⟩/\b<B/\∀ (k x:Nat),l[k]? =some x->w.cell? ⟨b,off+k,none⟩=some (.int .u8 (x:Int))
theorem sOf_nil:sOf []=fun _=>false:=by funext b;simp [sOf]
theorem yzeu {l:List Nat}{k x:Nat}(h:l[k]? =some x)(b:Nat):sOf (l.take (k+1)) b=(sOf (l.take k) b||decide (b=x)):=by
 unfold sOf;rw [List.take_add_one,h]
 simp [Bool.decide_or]
theorem xzss {m m':Nat->Bool}{x i:Nat}(h:∀ b,m' b=(m b||decide (b=x)))(hi:x / 64=i):bits .or .u64 (wd m i:Nat) (IntKind.u64.wrap (2^(x%64)))=(wd m' i:Int):=by
 have hp:2^(x%64)<2^64:=Nat.pow_lt_pow_right (by decide) (by omega)
 have e:IntKind.u64.wrap ((2:Int)^(x%64))=((2^(x%64):Nat):Int):=by
  have e2:((2:Int)^(x%64))=((2^(x%64):Nat):Int):=by rw [Int.natCast_pow];rfl
  rw [e2,IntKind.wrap_u64];generalize 2^(x%64)=p at*;omega
 rw [e,u64_or_nat _ _ (xzgv _ _) hp];refine congrArg (fun n:Nat=>(n:Int)) (xzsp (Nat.or_lt_two_pow (n:=64) (xzgv _ _) hp) fun j hj=>?_);rw [Nat.testBit_or,xzat,Nat.testBit_two_pow,h]
 have:decide (x%64=j)=decide (64*i+j=x):=by rw [decide_eq_decide];omega
 rw [this];simp [hj]
theorem xzbq {m m':Nat->Bool}{x i:Nat}(h:∀ b,m' b=(m b||decide (b=x)))(hi:x / 64≠i):wd m i=wd m' i:=
 xzbg fun j hj=>by
  have: ¬ 64*i+j=x:=by omega
  rw [h];simp [this]
theorem xzpz (i:Nat):wd (sOf []) i=0:=by
 have:=lowBits 0 i 0 (by decide) (fun j hj=>⟨fun h=>absurd h (by omega),fun h=>by omega⟩)
 have h2:wd (sOf []) i=wd (sBelow 0) i:=xzbg fun j _=>by simp [sOf,sBelow];omega
 rw [h2,<-this]
set_option maxHeartbeats 400000 in
theorem of_any (A:Option Addr)(c:Nat)(l:List Nat)(w:World)(hr:ByteRow w w.heap.size A l)(hl:∀ x∈l,x<256)(hn:l.length<=9223372036854775807):
 Calls Tryz.prog 93 #[.slice A l.length c] w fun e w'=>e=.returned (setV (sOf l))/\Below w.heap.size w w':=by
 go_enter Tryz.func93,Tryz.ntmps93
 go_wp2
 go_loopw [8] (fun i wr=>∃ k,k<=l.length/\i=.int .i64 (k:Nat)/\
  wr=(w.alloc (.cells #[.int .u64 0,.int .u64 0,.int .u64 0,.int .u64 0] 47)).alloc (.cells #[.int .u64 (wd (sOf (l.take k)) 0:Nat),.int .u64 (wd (sOf (l.take k)) 1:Nat),.int .u64 (wd (sOf (l.take k)) 2:Nat),.int .u64 (wd (sOf (l.take k)) 3:Nat)] 47))
  (fun i _=>l.length - (intOf i).toNat)
 case atStart=>
  refine⟨0,Nat.zero_le _,rfl,?_⟩;simp only [List.take_zero,xzpz]
  rfl
 case round=>
  obtain⟨k,hk,rfl,rfl⟩:=hrel
  by_cases hlt:k<l.length
  ·obtain⟨b,off,rfl,hb,hcell⟩:=hr (by intro h;subst h;simp at hlt)
   have hx:=hl l[k] (List.getElem_mem hlt);have hg:l[k]? =some l[k]:=List.getElem?_eq_getElem hlt;have hc:=hcell k l[k] hg;have ht:=yzeu hg;clear hg;generalize l[k]=x at*
   have hne:b≠w.heap.size:=by omega
   have hne2:b≠w.heap.size+1:=by omega
   have HT:=zd ht;clear hr hl hcell ht
   have hcase:x / 64=0\/x / 64=1\/x / 64=2\/x / 64=3:=by omega
   rcases hcase with hq|hq|hq|hq
   ·have hqi:(x:Int) / 64=0:=by omega
    have HQ:=zd hq;clear hq;go_wp2;refine⟨⟨k+1,by omega,by go_num,?_⟩,by simp [intOf];omega⟩;rw [xzss HT.out HQ.out,xzbq (i:=1) HT.out (by rw [HQ.out];decide),xzbq (i:=2) HT.out (by rw [HQ.out];decide),xzbq (i:=3) HT.out (by rw [HQ.out];decide)]
   ·have hqi:(x:Int) / 64=1:=by omega
    have HQ:=zd hq;clear hq;go_wp2;refine⟨⟨k+1,by omega,by go_num,?_⟩,by simp [intOf];omega⟩;rw [xzss HT.out HQ.out,xzbq (i:=0) HT.out (by rw [HQ.out];decide),xzbq (i:=2) HT.out (by rw [HQ.out];decide),xzbq (i:=3) HT.out (by rw [HQ.out];decide)]
   ·have hqi:(x:Int) / 64=2:=by omega
    have HQ:=zd hq;clear hq;go_wp2;refine⟨⟨k+1,by omega,by go_num,?_⟩,by simp [intOf];omega⟩;rw [xzss HT.out HQ.out,xzbq (i:=0) HT.out (by rw [HQ.out];decide),xzbq (i:=1) HT.out (by rw [HQ.out];decide),xzbq (i:=3) HT.out (by rw [HQ.out];decide)]
   ·have hqi:(x:Int) / 64=3:=by omega
    have HQ:=zd hq;clear hq;go_wp2;refine⟨⟨k+1,by omega,by go_num,?_⟩,by simp [intOf];omega⟩;rw [xzss HT.out HQ.out,xzbq (i:=0) HT.out (by rw [HQ.out];decide),xzbq (i:=1) HT.out (by rw [HQ.out];decide),xzbq (i:=2) HT.out (by rw [HQ.out];decide)]
  ·have he:l.take k=l:=List.take_of_length_le (by omega)
   rw [he];clear hr hl;go_wp2;refine bodyPost_ret (v:=setV (sOf l)) (by simp [results,Tryz.results93,go_sem]) rfl ⟨rfl,?_⟩;exact((Below.refl _ _).alloc (Nat.le_refl _) _).alloc (by simp) _
theorem xzde (d:Nat)(xs ys:Array Value)(j:Nat)(js:List Nat)(a b:Int)(w:World)
 (ha:(part 45 xs (j*1)).run Tryz.prog w=.ok (.int .u64 a) w)(hb:(part 45 ys (j*1)).run Tryz.prog w=.ok (.int .u64 b) w):
 (Op.eqItems (d+1) 45 1 xs ys (j::js)).run Tryz.prog w=if a=b then(Op.eqItems (d+1) 45 1 xs ys js).run Tryz.prog w else .ok false w:=by
 have h64:=run_equalIn_int (P:=Tryz.prog) w d 45 .u64 .u64 a b Tryz.underlying45;simp only [Op.eqItems,Sem.run_bind,ha,hb,Result.andThen_ok,h64]
 by_cases h:a=b
 ·simp [h]
 ·have h2:(a==b)=false:=by simpa using h
  simp [h,h2]
theorem xzgp (m n:Nat->Bool)(w:World):(binOp .eql 47 (setV m) (setV n)).run Tryz.prog w=.ok (.bool (setEq m n)) w:=by
 have hp0:∀ (k:Nat->Bool),(part 45 #[.int .u64 (wd k 0:Nat),.int .u64 (wd k 1:Nat),.int .u64 (wd k 2:Nat),.int .u64 (wd k 3:Nat)] (0*1)).run Tryz.prog w=.ok (.int .u64 (wd k 0:Nat)) w:=fun k=>by kernel_rfl
 have hp1:∀ (k:Nat->Bool),(part 45 #[.int .u64 (wd k 0:Nat),.int .u64 (wd k 1:Nat),.int .u64 (wd k 2:Nat),.int .u64 (wd k 3:Nat)] (1*1)).run Tryz.prog w=.ok (.int .u64 (wd k 1:Nat)) w:=fun k=>by kernel_rfl
 have hp2:∀ (k:Nat->Bool),(part 45 #[.int .u64 (wd k 0:Nat),.int .u64 (wd k 1:Nat),.int .u64 (wd k 2:Nat),.int .u64 (wd k 3:Nat)] (2*1)).run Tryz.prog w=.ok (.int .u64 (wd k 2:Nat)) w:=fun k=>by kernel_rfl
 have hp3:∀ (k:Nat->Bool),(part 45 #[.int .u64 (wd k 0:Nat),.int .u64 (wd k 1:Nat),.int .u64 (wd k 2:Nat),.int .u64 (wd k 3:Nat)] (3*1)).run Tryz.prog w=.ok (.int .u64 (wd k 3:Nat)) w:=fun k=>by kernel_rfl
 have e:(Op.equalIn 10000 47 (setV m) (setV n)).run Tryz.prog w=.ok (setEq m n) w:=by
  obtain⟨i,hi⟩:∃ i,Tryz.prog.info? 45=some i:=Option.isSome_iff_exists.1 (by kernel_rfl)
  have hc:Tryz.prog.cellsOf 45=1:=by kernel_rfl
  have h:=run_equalIn_array (P:=Tryz.prog) w 9999 #[.int .u64 (wd m 0:Nat),.int .u64 (wd m 1:Nat),.int .u64 (wd m 2:Nat),.int .u64 (wd m 3:Nat)]
   #[.int .u64 (wd n 0:Nat),.int .u64 (wd n 1:Nat),.int .u64 (wd n 2:Nat),.int .u64 (wd n 3:Nat)] Tryz.underlying47 hi
  rw [hc,show List.range 4=[0,1,2,3]from rfl]at h;rw [xzde 9998 _ _ 0 _ _ _ w (hp0 m) (hp0 n),xzde 9998 _ _ 1 _ _ _ w (hp1 m) (hp1 n),xzde 9998 _ _ 2 _ _ _ w (hp2 m) (hp2 n),xzde 9998 _ _ 3 _ _ _ w (hp3 m) (hp3 n)]at h;refine h.trans ?_;unfold setEq;simp only [Int.natCast_inj]
  by_cases h0:wd m 0=wd n 0
  ·by_cases h1:wd m 1=wd n 1
   ·by_cases h2:wd m 2=wd n 2
    ·by_cases h3:wd m 3=wd n 3
     ·rw [if_pos h0,if_pos h1,if_pos h2,if_pos h3,h0,h1,h2,h3];simp [Op.eqItems]
     ·rw [if_pos h0,if_pos h1,if_pos h2,if_neg h3];simp [h3]
    ·rw [if_pos h0,if_pos h1,if_neg h2];simp [h2]
   ·rw [if_pos h0,if_neg h1];simp [h1]
  ·rw [if_neg h0];simp [h0]
 have h2:=run_eql_struct (P:=Tryz.prog) w 47 #[.int .u64 (wd m 0:Nat),.int .u64 (wd m 1:Nat),.int .u64 (wd m 2:Nat),.int .u64 (wd m 3:Nat)]
  #[.int .u64 (wd n 0:Nat),.int .u64 (wd n 1:Nat),.int .u64 (wd n 2:Nat),.int .u64 (wd n 3:Nat)]
 refine h2.trans ?_;have e':(Op.equalIn 10000 47 (.agg #[.int .u64 (wd m 0:Nat),.int .u64 (wd m 1:Nat),.int .u64 (wd m 2:Nat),.int .u64 (wd m 3:Nat)]) (.agg #[.int .u64 (wd n 0:Nat),.int .u64 (wd n 1:Nat),.int .u64 (wd n 2:Nat),.int .u64 (wd n 3:Nat)])).run Tryz.prog w=.ok (setEq m n) w:=e;rw [e'];rfl
def BoxIs (g:Nat)(m:Nat->Bool)(w:World):Prop:=
 w.cell? ⟨g,0,none⟩=some (.int .u64 (wd m 0:Nat))/\w.cell? ⟨g,1,none⟩=some (.int .u64 (wd m 1:Nat))/\
 w.cell? ⟨g,2,none⟩=some (.int .u64 (wd m 2:Nat))/\w.cell? ⟨g,3,none⟩=some (.int .u64 (wd m 3:Nat))
theorem BoxIs.below {g:Nat}{m:Nat->Bool}{W W':World}(h:BoxIs g m W)(hb:Below W.heap.size W W')(hg:g<W.heap.size):BoxIs g m W':=
 ⟨(hb.cell (p:=⟨g,0,none⟩) hg).trans h.1,(hb.cell (p:=⟨g,1,none⟩) hg).trans h.2.1,(hb.cell (p:=⟨g,2,none⟩) hg).trans h.2.2.1,(hb.cell (p:=⟨g,3,none⟩) hg).trans h.2.2.2⟩
theorem xzzy {w W W':World}{g:Nat}{m:Nat->Bool}(h:Below w.heap.size w W/\g<W.heap.size/\W.cell? ⟨g,0,none⟩=some (.int .u64 (wd m 0:Nat))/\W.cell? ⟨g,1,none⟩=some (.int .u64 (wd m 1:Nat))/\
 W.cell? ⟨g,2,none⟩=some (.int .u64 (wd m 2:Nat))/\W.cell? ⟨g,3,none⟩=some (.int .u64 (wd m 3:Nat))) (hb:Below W.heap.size W W'):
 Below w.heap.size w W'/\g<W'.heap.size/\W'.cell? ⟨g,0,none⟩=some (.int .u64 (wd m 0:Nat))/\W'.cell? ⟨g,1,none⟩=some (.int .u64 (wd m 1:Nat))/\
  W'.cell? ⟨g,2,none⟩=some (.int .u64 (wd m 2:Nat))/\W'.cell? ⟨g,3,none⟩=some (.int .u64 (wd m 3:Nat)):=
 ⟨h.1.trans (hb.mono h.1.size),Nat.lt_of_lt_of_le h.2.1 hb.size,BoxIs.below h.2.2 hb h.2.1⟩
theorem of_one (x b c:Nat)(w:World)(hx:x<256)(hb:b<w.heap.size)(h0:w.cell? ⟨b,0,none⟩=some (.int .u8 (x:Int))):
 Calls Tryz.prog 93 #[.slice (some ⟨b,0,none⟩) 1 c] w fun e w'=>e=.returned (setV (sOf [x]))/\Below w.heap.size w w':=
 of_any (some ⟨b,0,none⟩) c [x] w (fun _=>⟨b,0,rfl,hb,fun k y hk=>by
  obtain⟨rfl,rfl⟩:k=0/\x=y:=by
   cases k with
   |zero=>simpa using hk
   |succ k=>simp at hk
  exact h0⟩) (by simpa using hx) (by simp)
set_option maxHeartbeats 400000 in
theorem has_any (m:Nat->Bool)(c:Nat)(hc:c<256)(w:World):
 Calls Tryz.prog 74 #[setV m,.int .u8 c] w fun e w'=>e=.returned (.bool (m c))/\Below w.heap.size w w':=by
 have hq:=xzgp (sOr m (sOf [c])) m
 have hb:setEq (sOr m (sOf [c])) m=m c:=by
  rw [Bool.eq_iff_iff,setEq_iff]
  constructor
  ·intro h
   have:=h c hc
   simpa [sOr,sOf]using this
  ·intro h b _
   by_cases e:b=c
   ·subst e;simp [sOr,sOf,h]
   ·simp [sOr,sOf,e]
 rw [<-hb];have HB:=zd hb;clear hb
 go_enter Tryz.func74,Tryz.ntmps74
 go_wp2
 go_region_held3 (fun w'=>Below w.heap.size w w'/\w.heap.size<w'.heap.size/\w'.cell? ⟨w.heap.size,0,none⟩=some (.int .u64 (wd m 0:Nat))/\w'.cell? ⟨w.heap.size,1,none⟩=some (.int .u64 (wd m 1:Nat))/\
  w'.cell? ⟨w.heap.size,2,none⟩=some (.int .u64 (wd m 2:Nat))/\w'.cell? ⟨w.heap.size,3,none⟩=some (.int .u64 (wd m 3:Nat)))
  ((first
    |exact xzzy (by assumption) hb1
    |(refine⟨(by first|exact((Below.refl _ _).alloc (Nat.le_refl _) _).drew|exact(((Below.refl _ _).alloc (Nat.le_refl _) _).alloc (by simp) _).drew),?_,?_,?_,?_,?_⟩<;>go_simp<;>done)))
  ((first
    |(go_at_call 93;go_must(refine(of_one c _ _ _ hc (by simp) (by go_simp)).mono ?_);rintro e w1 ⟨rfl,hb1⟩)
    |(go_at_call 92;go_must(refine(any_any _ _ _).mono ?_);rintro e w1 ⟨rfl,hb1⟩)))
 have hB:Below w.heap.size w w1:=by
  have h:= ‹Below w.heap.size w w1/\_›;exact h.1
 go_wp2;go_ret;exact⟨rfl,hB⟩
end
section
open Go.RowKit
def BlkIs (w:World)(g:Nat)(t:TypeId)(cs:Array Value):Prop:=w.heap[g]? =some (.cells cs t (0,0))
section
variable {w W' : World} {g : Nat} {t : TypeId} {cs : Array Value}
theorem BlkIs.lt (h:BlkIs w g t cs):g<w.heap.size:=by
 rcases Nat.lt_or_ge g w.heap.size with hlt|hge
 ·exact hlt
 ·unfold BlkIs at h;rw [Array.getElem?_eq_none hge]at h;cases h
theorem BlkIs.cell (h:BlkIs w g t cs)(i:Nat):w.cell? ⟨g,i,none⟩=cs[i]? :=cell_of_row w g i cs t (0,0) h
theorem BlkIs.frozen (h:BlkIs w g t cs)(i:Nat):w.frozen? ⟨g,i,none⟩=false:=by
 unfold BlkIs at h;simp [World.frozen?,h]
theorem BlkIs.new (w:World)(t:TypeId)(cs:Array Value):BlkIs (w.alloc (.cells cs t)) w.heap.size t cs:=by
 show(w.heap.push _)[w.heap.size]? =_
 simp
theorem BlkIs.alloc (h:BlkIs w g t cs)(o:Obj):BlkIs (w.alloc o) g t cs:=(Below.heap_alloc w o g h.lt).trans h
theorem BlkIs.drew (h:BlkIs w g t cs):BlkIs w.drew g t cs:=h
theorem BlkIs.below {B:Nat}(h:BlkIs w g t cs)(hb:Below B w W')(hg:g<B):BlkIs W' g t cs:=(hb.block g hg).trans h
theorem BlkIs.step (h:BlkIs w g t cs)(hb:Below w.heap.size w W'):BlkIs W' g t cs:=h.below hb h.lt
theorem BlkIs.far (h:BlkIs w g t cs){p:Addr}(hp:g≠p.block)(u:Value):BlkIs (w.setCell p u) g t cs:=(Below.heap_setCell w p u g hp).trans h
theorem BlkIs.put (h:BlkIs w g t cs)(i:Nat)(u:Value):BlkIs (w.setCell ⟨g,i,none⟩ u) g t (cs.setIfInBounds i u):=by
 unfold BlkIs at h ⊢
 simp [World.setCell,Array.getElem?_modify,h]
theorem BlkIs.four {a b c d:Value}(h:BlkIs w g t #[a,b,c,d]):w.cell? ⟨g,0,none⟩=some a/\w.cell? ⟨g,1,none⟩=some b/\w.cell? ⟨g,2,none⟩=some c/\w.cell? ⟨g,3,none⟩=some d/\
 w.frozen? ⟨g,0,none⟩=false/\w.frozen? ⟨g,1,none⟩=false/\w.frozen? ⟨g,2,none⟩=false/\w.frozen? ⟨g,3,none⟩=false:=
 ⟨h.cell 0,h.cell 1,h.cell 2,h.cell 3,h.frozen 0,h.frozen 1,h.frozen 2,h.frozen 3⟩
theorem BlkIs.range (h:BlkIs w g t cs):w.rangeAt g 0 cs.toList:=fun j v hv=>by
 rw [Nat.zero_add,h.cell j];simpa using hv
theorem BlkIs.there (h:BlkIs w g t cs):w.there g 0 cs.size:=fun j hj=>by
 rw [Nat.zero_add,h.cell j];exact⟨by simp [hj],h.frozen j⟩
end
theorem BlkIs.sized {g:Nat}{t:TypeId}:∀ (vs:List Value) (o:Nat) (w:World) (cs:Array Value),BlkIs w g t cs->∃ cs',BlkIs (w.setCells g o vs) g t cs'/\cs'.size=cs.size
 |[],_,_,cs,h=>⟨cs,h,rfl⟩
 |v::r,o,w,cs,h=>by
  rw [World.setCells];obtain⟨cs',h1,h2⟩:=BlkIs.sized r (o+1) _ _ (h.put o v);exact⟨cs',h1,by rw [h2];simp⟩
theorem BlkIs.fill {w:World}{g:Nat}{t:TypeId}{cs new:Array Value}(h:BlkIs w g t cs)(hs:new.size=cs.size):BlkIs (w.setCells g 0 new.toList) g t new:=by
 obtain⟨cs',h1,h2⟩:=BlkIs.sized new.toList 0 w cs h;have hr:=World.rangeAt_setCells_same w g 0 new.toList (by rw [Array.length_toList,hs];exact h.there)
 have e:cs'=new:=by
  apply Array.ext (by rw [h2,hs])
  intro i hi hi';have a:=hr i new[i] (by simp [hi']);rw [Nat.zero_add,h1.cell i]at a
  simpa [hi]using a
 rw [<-e];rw [<-e]at h1;exact h1
theorem xzae {fn:Func}{p:Tmp}{ty:TypeId}{tmps:Array Value}{P:Program}{w w':World}{a:Addr}{v:Value}(h:fn.results=#[.cell p ty])
 (hp:tmps.getD p undef=.pointer (some a))(hl:(loadVar ty a).run P w=.ok v w'):(results fn tmps).run P w=.ok v w':=by
 have hp':tmps[p]?.getD undef=.pointer (some a):=by rw [<-hp];simp
 unfold results;rw [h]
 simp [hp',asAddr,hl]
def bools (f:Nat->Bool):Array Value:=((List.range 256).map fun i=>Value.bool (f i)).toArray
theorem xzdv (f:Nat->Bool):(bools f).size=256:=by simp [bools]
theorem xzgy (f:Nat->Bool){i:Nat}(h:i<256):(bools f)[i]? =some (.bool (f i)):=by
 unfold bools;rw [List.getElem?_toArray,List.getElem?_map,List.getElem?_range h];rfl
theorem xzji {f g:Nat->Bool}(h:∀ i,i<256->f i=g i):bools f=bools g:=by
 unfold bools;rw [List.map_congr_left (fun i hi=>by rw [h i (List.mem_range.1 hi)])]
def updS (f:Nat->Bool)(i:Nat)(v:Bool):Nat->Bool:=fun j=>if j=i then v else f j
theorem xzzz (f:Nat->Bool)(i:Nat)(v:Bool):(bools f).setIfInBounds i (.bool v)=bools (updS f i v):=by
 apply Array.ext_getElem?
 intro j
 by_cases hj:j<256
 ·rw [Array.getElem?_setIfInBounds,xzgy _ hj,xzgy _ hj,xzdv]
  unfold updS
  by_cases e:i=j
  ·subst e;simp [hj]
  ·have e': ¬ j=i:=fun h=>e h.symm
   simp [e,e']
 ·rw [Array.getElem?_eq_none (by rw [Array.size_setIfInBounds,xzdv];omega),Array.getElem?_eq_none (by rw [xzdv];omega)]
theorem yzaa (f:Nat->Bool):Value.agg (bools f).toList.toArray=.agg (bools f):=by simp
end
section
open Go.RowKit
theorem xzga (x k:Nat):x / 2^k / 2=x / 2^(k+1):=by rw [Nat.div_div_eq_div_mul,Nat.pow_succ]
set_option maxHeartbeats 400000 in
theorem xzhl (m:Nat->Bool)(b:Nat)(hb:b<256)(w:World):
 Calls Tryz.prog 56 #[setV m,.int .i64 b] w fun e w'=>e=.returned (.bool (m b))/\Below w.heap.size w w':=by
 have hcase:b / 64=0\/b / 64=1\/b / 64=2\/b / 64=3:=by omega
 have hlast:∀ q y:Nat,b / 64=q->y=wd m q / 2^(b%64)->(((y:Int)%2==1)=m b):=by
  intro q y h1 h2;have ht:=xzat m q (b%64);rw [show 64*q+b%64=b by omega]at ht
  have h64:b%64<64:=by omega
  simp only [h64,decide_true,Bool.true_and]at ht;rw [<-ht,Nat.testBit_eq_decide_div_mod_eq,<-h2,Bool.eq_iff_iff,beq_iff_eq,decide_eq_true_iff];omega
 have HL:=zd hlast;clear hlast
 rcases hcase with hq|hq|hq|hq
 ·have hqi:(b:Int) / 64=0:=by omega
  have HQ:=zd hq;clear hq
  go_enter Tryz.func56,Tryz.ntmps56
  go_wp2
  go_loop [5,6] (fun x i=>∃ k y:Nat,k<=b%64/\y<18446744073709551616/\Hid (y=wd m 0 / 2^k)/\i=.int .i64 k/\x=.int .u64 (y:Int)) (fun _ i=>b%64 - (intOf i).toNat)
  case atStart=>exact⟨0,wd m 0,by omega,xzgv _ _,zd (by simp),rfl,rfl⟩
  case round=>
   obtain⟨k,y,hk,hy,HY,rfl,rfl⟩:=hrel
   by_cases hlt:k<b%64
   ·go_wp2
    refine⟨⟨k+1,y / 2,by omega,by omega,zd (by rw [HY.out,xzga]),by go_num,?_⟩,by simp [intOf];omega⟩;rw [Int.natCast_ediv];rfl
   ·have he:k=b%64:=by omega
    have hfin:=HL.out 0 y HQ.out (by rw [HY.out,he]);have HF:=zd hfin;clear hfin he;go_wp2;go_ret;exact⟨xzfy HF.out,(Below.refl _ _).alloc (Nat.le_refl _) _⟩
 ·have hqi:(b:Int) / 64=1:=by omega
  have HQ:=zd hq;clear hq
  go_enter Tryz.func56,Tryz.ntmps56
  go_wp2
  go_loop [5,6] (fun x i=>∃ k y:Nat,k<=b%64/\y<18446744073709551616/\Hid (y=wd m 1 / 2^k)/\i=.int .i64 k/\x=.int .u64 (y:Int)) (fun _ i=>b%64 - (intOf i).toNat)
  case atStart=>exact⟨0,wd m 1,by omega,xzgv _ _,zd (by simp),rfl,rfl⟩
  case round=>
   obtain⟨k,y,hk,hy,HY,rfl,rfl⟩:=hrel
   by_cases hlt:k<b%64
   ·go_wp2
    refine⟨⟨k+1,y / 2,by omega,by omega,zd (by rw [HY.out,xzga]),by go_num,?_⟩,by simp [intOf];omega⟩;rw [Int.natCast_ediv];rfl
   ·have he:k=b%64:=by omega
    have hfin:=HL.out 1 y HQ.out (by rw [HY.out,he]);have HF:=zd hfin;clear hfin he;go_wp2;go_ret;exact⟨xzfy HF.out,(Below.refl _ _).alloc (Nat.le_refl _) _⟩
 ·have hqi:(b:Int) / 64=2:=by omega
  have HQ:=zd hq;clear hq
  go_enter Tryz.func56,Tryz.ntmps56
  go_wp2
  go_loop [5,6] (fun x i=>∃ k y:Nat,k<=b%64/\y<18446744073709551616/\Hid (y=wd m 2 / 2^k)/\i=.int .i64 k/\x=.int .u64 (y:Int)) (fun _ i=>b%64 - (intOf i).toNat)
  case atStart=>exact⟨0,wd m 2,by omega,xzgv _ _,zd (by simp),rfl,rfl⟩
  case round=>
   obtain⟨k,y,hk,hy,HY,rfl,rfl⟩:=hrel
   by_cases hlt:k<b%64
   ·go_wp2
    refine⟨⟨k+1,y / 2,by omega,by omega,zd (by rw [HY.out,xzga]),by go_num,?_⟩,by simp [intOf];omega⟩;rw [Int.natCast_ediv];rfl
   ·have he:k=b%64:=by omega
    have hfin:=HL.out 2 y HQ.out (by rw [HY.out,he]);have HF:=zd hfin;clear hfin he;go_wp2;go_ret;exact⟨xzfy HF.out,(Below.refl _ _).alloc (Nat.le_refl _) _⟩
 ·have hqi:(b:Int) / 64=3:=by omega
  have HQ:=zd hq;clear hq
  go_enter Tryz.func56,Tryz.ntmps56
  go_wp2
  go_loop [5,6] (fun x i=>∃ k y:Nat,k<=b%64/\y<18446744073709551616/\Hid (y=wd m 3 / 2^k)/\i=.int .i64 k/\x=.int .u64 (y:Int)) (fun _ i=>b%64 - (intOf i).toNat)
  case atStart=>exact⟨0,wd m 3,by omega,xzgv _ _,zd (by simp),rfl,rfl⟩
  case round=>
   obtain⟨k,y,hk,hy,HY,rfl,rfl⟩:=hrel
   by_cases hlt:k<b%64
   ·go_wp2
    refine⟨⟨k+1,y / 2,by omega,by omega,zd (by rw [HY.out,xzga]),by go_num,?_⟩,by simp [intOf];omega⟩;rw [Int.natCast_ediv];rfl
   ·have he:k=b%64:=by omega
    have hfin:=HL.out 3 y HQ.out (by rw [HY.out,he]);have HF:=zd hfin;clear hfin he;go_wp2;go_ret;exact⟨xzfy HF.out,(Below.refl _ _).alloc (Nat.le_refl _) _⟩
def shW (f:Nat->Bool)(c i:Nat):Nat:=wd f i / 2^(min 64 (c - 64*i))
theorem xzaq {f:Nat->Bool}{b i:Nat}(h:b / 64≠i):shW f b i=shW f (b+1) i:=by
 unfold shW
 have:min 64 (b - 64*i)=min 64 (b+1 - 64*i):=by omega
 rw [this]
theorem xzdw {f:Nat->Bool}{b q:Nat}(h:b / 64=q):shW f b q=2*shW f (b+1) q+(if f b then 1 else 0):=by
 unfold shW
 have e1:min 64 (b - 64*q)=b%64:=by omega
 have e2:min 64 (b+1 - 64*q)=b%64+1:=by omega
 rw [e1,e2];have ht:=xzat f q (b%64);rw [show 64*q+b%64=b by omega,Nat.testBit_eq_decide_div_mod_eq]at ht
 have h64:b%64<64:=by omega
 simp only [h64,decide_true,Bool.true_and]at ht;rw [<-xzga];generalize wd f q / 2^(b%64)=y at*
 cases hf:f b
 ·rw [hf]at ht;have: ¬ y%2=1:=of_decide_eq_false ht;simp;omega
 ·rw [hf]at ht;have:y%2=1:=of_decide_eq_true ht;simp;omega
theorem xzcq {f:Nat->Bool}{b q:Nat}(h:b / 64=q):shW f (b+1) q<9223372036854775808:=by
 unfold shW
 have e2:min 64 (b+1 - 64*q)=b%64+1:=by omega
 rw [e2,<-xzga];have h1:wd f q / 2^(b%64)<=wd f q:=Nat.div_le_self _ _;have h2:=xzgv f q;omega
theorem yzev (f:Nat->Bool)(i:Nat):shW f 0 i=wd f i:=by simp [shW]
theorem xzqa (f:Nat->Bool){i:Nat}(hi:i<4):shW f 256 i=0:=by
 unfold shW;rw [show min 64 (256 - 64*i)=64 by omega];exact Nat.div_eq_of_lt (xzgv _ _)
set_option maxHeartbeats 1000000 in
theorem yzew (f:Nat->Bool)(w:World):
 Calls Tryz.prog 58 #[.agg (bools f)] w fun e w'=>e=.returned (setV f)/\Below w.heap.size w w':=by
 go_enter Tryz.func58,Tryz.ntmps58
 go_wp2
 go_loopw [4] (fun s wr=>∃ (z:Int) (y0 y1 y2 y3:Nat), -1<=z/\z<256/\s=.int .i64 z/\y0<18446744073709551616/\y1<18446744073709551616/\y2<18446744073709551616/\y3<18446744073709551616/\
  Hid (y0=shW f (z+1).toNat 0/\y1=shW f (z+1).toNat 1/\y2=shW f (z+1).toNat 2/\y3=shW f (z+1).toNat 3)/\
  wr=((w.alloc (.cells (bools f) 99)).alloc (.cells #[.int .u64 0,.int .u64 0,.int .u64 0,.int .u64 0] 47)).alloc (.cells #[.int .u64 (y0:Nat),.int .u64 (y1:Nat),.int .u64 (y2:Nat),.int .u64 (y3:Nat)] 47))
  (fun s _=>(intOf s+1).toNat)
 case atStart=>
  exact⟨255,0,0,0,0,by omega,by omega,rfl,by omega,by omega,by omega,by omega,zd ⟨(xzqa f (by omega)).symm,(xzqa f (by omega)).symm,(xzqa f (by omega)).symm,(xzqa f (by omega)).symm⟩,rfl⟩
 case round=>
  obtain⟨z,y0,y1,y2,y3,hz0,hz1,rfl,h0,h1,h2,h3,HY,rfl⟩:=hrel
  by_cases hz:0<=z
  ·obtain⟨b,rfl⟩:=Int.eq_ofNat_of_zero_le hz
   have hb:b<256:=by omega
   have hbg:=xzgy f hb
   have hcase:b / 64=0\/b / 64=1\/b / 64=2\/b / 64=3:=by omega
   rw [show((b:Int)+1).toNat=b+1 by omega]at HY
   cases hfb:f b
   ·rw [hfb]at hbg
    rcases hcase with hq|hq|hq|hq
    ·have hqi:(b:Int) / 64=0:=by omega
     have hsm:y0<9223372036854775808:=by rw [HY.out.1];exact xzcq hq
     have hnew:shW f b 0=2*y0+0:=by rw [xzdw hq,<-HY.out.1,hfb];rfl
     have HN:=zd hnew;have HQ:=zd hq;clear hnew hq hfb;go_wp2;refine⟨⟨(b:Int) - 1,(2*y0),y1,y2,y3,by omega,by omega,rfl,by omega,by omega,by omega,by omega,?_,?_⟩,by simp [intOf]⟩
     ·rw [show((b:Int) - 1+1).toNat=b by omega]
      exact zd ⟨HN.out.symm,(HY.out.2.1.trans (xzaq (by rw [HQ.out];decide)).symm),(HY.out.2.2.1.trans (xzaq (by rw [HQ.out];decide)).symm),(HY.out.2.2.2.trans (xzaq (by rw [HQ.out];decide)).symm)⟩
     ·have e:(y0:Int)*2=((2*y0:Nat):Int):=by omega
      rw [e]
    ·have hqi:(b:Int) / 64=1:=by omega
     have hsm:y1<9223372036854775808:=by rw [HY.out.2.1];exact xzcq hq
     have hnew:shW f b 1=2*y1+0:=by rw [xzdw hq,<-HY.out.2.1,hfb];rfl
     have HN:=zd hnew;have HQ:=zd hq;clear hnew hq hfb;go_wp2;refine⟨⟨(b:Int) - 1,y0,(2*y1),y2,y3,by omega,by omega,rfl,by omega,by omega,by omega,by omega,?_,?_⟩,by simp [intOf]⟩
     ·rw [show((b:Int) - 1+1).toNat=b by omega]
      exact zd ⟨(HY.out.1.trans (xzaq (by rw [HQ.out];decide)).symm),HN.out.symm,(HY.out.2.2.1.trans (xzaq (by rw [HQ.out];decide)).symm),(HY.out.2.2.2.trans (xzaq (by rw [HQ.out];decide)).symm)⟩
     ·have e:(y1:Int)*2=((2*y1:Nat):Int):=by omega
      rw [e]
    ·have hqi:(b:Int) / 64=2:=by omega
     have hsm:y2<9223372036854775808:=by rw [HY.out.2.2.1];exact xzcq hq
     have hnew:shW f b 2=2*y2+0:=by rw [xzdw hq,<-HY.out.2.2.1,hfb];rfl
     have HN:=zd hnew;have HQ:=zd hq;clear hnew hq hfb;go_wp2;refine⟨⟨(b:Int) - 1,y0,y1,(2*y2),y3,by omega,by omega,rfl,by omega,by omega,by omega,by omega,?_,?_⟩,by simp [intOf]⟩
     ·rw [show((b:Int) - 1+1).toNat=b by omega]
      exact zd ⟨(HY.out.1.trans (xzaq (by rw [HQ.out];decide)).symm),(HY.out.2.1.trans (xzaq (by rw [HQ.out];decide)).symm),HN.out.symm,(HY.out.2.2.2.trans (xzaq (by rw [HQ.out];decide)).symm)⟩
     ·have e:(y2:Int)*2=((2*y2:Nat):Int):=by omega
      rw [e]
    ·have hqi:(b:Int) / 64=3:=by omega
     have hsm:y3<9223372036854775808:=by rw [HY.out.2.2.2];exact xzcq hq
     have hnew:shW f b 3=2*y3+0:=by rw [xzdw hq,<-HY.out.2.2.2,hfb];rfl
     have HN:=zd hnew;have HQ:=zd hq;clear hnew hq hfb;go_wp2;refine⟨⟨(b:Int) - 1,y0,y1,y2,(2*y3),by omega,by omega,rfl,by omega,by omega,by omega,by omega,?_,?_⟩,by simp [intOf]⟩
     ·rw [show((b:Int) - 1+1).toNat=b by omega]
      exact zd ⟨(HY.out.1.trans (xzaq (by rw [HQ.out];decide)).symm),(HY.out.2.1.trans (xzaq (by rw [HQ.out];decide)).symm),(HY.out.2.2.1.trans (xzaq (by rw [HQ.out];decide)).symm),HN.out.symm⟩
     ·have e:(y3:Int)*2=((2*y3:Nat):Int):=by omega
      rw [e]
   ·rw [hfb]at hbg
    rcases hcase with hq|hq|hq|hq
    ·have hqi:(b:Int) / 64=0:=by omega
     have hsm:y0<9223372036854775808:=by rw [HY.out.1];exact xzcq hq
     have hnew:shW f b 0=2*y0+1:=by rw [xzdw hq,<-HY.out.1,hfb];rfl
     have HN:=zd hnew;have HQ:=zd hq;clear hnew hq hfb;go_wp2;refine⟨⟨(b:Int) - 1,(2*y0+1),y1,y2,y3,by omega,by omega,rfl,by omega,by omega,by omega,by omega,?_,?_⟩,by simp [intOf]⟩
     ·rw [show((b:Int) - 1+1).toNat=b by omega]
      exact zd ⟨HN.out.symm,(HY.out.2.1.trans (xzaq (by rw [HQ.out];decide)).symm),(HY.out.2.2.1.trans (xzaq (by rw [HQ.out];decide)).symm),(HY.out.2.2.2.trans (xzaq (by rw [HQ.out];decide)).symm)⟩
     ·have e:(y0:Int)*2+1=((2*y0+1:Nat):Int):=by omega
      rw [e]
    ·have hqi:(b:Int) / 64=1:=by omega
     have hsm:y1<9223372036854775808:=by rw [HY.out.2.1];exact xzcq hq
     have hnew:shW f b 1=2*y1+1:=by rw [xzdw hq,<-HY.out.2.1,hfb];rfl
     have HN:=zd hnew;have HQ:=zd hq;clear hnew hq hfb;go_wp2;refine⟨⟨(b:Int) - 1,y0,(2*y1+1),y2,y3,by omega,by omega,rfl,by omega,by omega,by omega,by omega,?_,?_⟩,by simp [intOf]⟩
     ·rw [show((b:Int) - 1+1).toNat=b by omega]
      exact zd ⟨(HY.out.1.trans (xzaq (by rw [HQ.out];decide)).symm),HN.out.symm,(HY.out.2.2.1.trans (xzaq (by rw [HQ.out];decide)).symm),(HY.out.2.2.2.trans (xzaq (by rw [HQ.out];decide)).symm)⟩
     ·have e:(y1:Int)*2+1=((2*y1+1:Nat):Int):=by omega
      rw [e]
    ·have hqi:(b:Int) / 64=2:=by omega
     have hsm:y2<9223372036854775808:=by rw [HY.out.2.2.1];exact xzcq hq
     have hnew:shW f b 2=2*y2+1:=by rw [xzdw hq,<-HY.out.2.2.1,hfb];rfl
     have HN:=zd hnew;have HQ:=zd hq;clear hnew hq hfb;go_wp2;refine⟨⟨(b:Int) - 1,y0,y1,(2*y2+1),y3,by omega,by omega,rfl,by omega,by omega,by omega,by omega,?_,?_⟩,by simp [intOf]⟩
     ·rw [show((b:Int) - 1+1).toNat=b by omega]
      exact zd ⟨(HY.out.1.trans (xzaq (by rw [HQ.out];decide)).symm),(HY.out.2.1.trans (xzaq (by rw [HQ.out];decide)).symm),HN.out.symm,(HY.out.2.2.2.trans (xzaq (by rw [HQ.out];decide)).symm)⟩
     ·have e:(y2:Int)*2+1=((2*y2+1:Nat):Int):=by omega
      rw [e]
    ·have hqi:(b:Int) / 64=3:=by omega
     have hsm:y3<9223372036854775808:=by rw [HY.out.2.2.2];exact xzcq hq
     have hnew:shW f b 3=2*y3+1:=by rw [xzdw hq,<-HY.out.2.2.2,hfb];rfl
     have HN:=zd hnew;have HQ:=zd hq;clear hnew hq hfb;go_wp2;refine⟨⟨(b:Int) - 1,y0,y1,y2,(2*y3+1),by omega,by omega,rfl,by omega,by omega,by omega,by omega,?_,?_⟩,by simp [intOf]⟩
     ·rw [show((b:Int) - 1+1).toNat=b by omega]
      exact zd ⟨(HY.out.1.trans (xzaq (by rw [HQ.out];decide)).symm),(HY.out.2.1.trans (xzaq (by rw [HQ.out];decide)).symm),(HY.out.2.2.1.trans (xzaq (by rw [HQ.out];decide)).symm),HN.out.symm⟩
     ·have e:(y3:Int)*2+1=((2*y3+1:Nat):Int):=by omega
      rw [e]
  ·have hz':z= -1:=by omega
   subst hz';obtain⟨rfl,rfl,rfl,rfl⟩:=HY.out;clear HY;simp only [show(-1+1:Int).toNat=0 from rfl,yzev]at*;go_wp2;refine bodyPost_ret (v:=setV f) (by simp [results,Tryz.results58,go_sem]) rfl ⟨rfl,?_⟩;exact(((Below.refl _ _).alloc (Nat.le_refl _) _).alloc (by simp) _).alloc (by simp;omega) _
def sRng (lo b:Nat):Nat->Bool:=fun j=>decide (lo<=j)&&decide (j<b)
theorem zero24 (w:World):(zeroValue 99).run Tryz.prog w=.ok (.agg (bools fun _=>false)) w:=
 (zero_of_info (P:=Tryz.prog) (t:=99) (v:=.agg (bools fun _=>false)) (n:=256) (by kernel_rfl)).1 w
theorem info24:(Tryz.prog.info? 99).map (·.size)=some 256:=by kernel_rfl
set_option maxHeartbeats 400000 in
theorem xznz (lo hi:Nat)(hhi:hi<256)(w:World):
 Calls Tryz.prog 31 #[.int .i64 lo,.int .i64 hi] w fun e w'=>e=.returned (setV (sRange lo hi))/\Below w.heap.size w w':=by
 have z24:=zero24
 go_enter Tryz.func31,Tryz.ntmps31
 go_wp2
 go_loopw [6] (fun s wr=>∃ b:Nat,lo<=b/\(b<=hi+1\/b=lo)/\s=.int .i64 b/\
  wr=(w.alloc (.cells #[.int .u64 0,.int .u64 0,.int .u64 0,.int .u64 0] 47)).alloc (.cells (bools (sRng lo b)) 99))
  (fun s _=>256 - (intOf s).toNat)
 case atStart=>
  refine⟨lo,Nat.le_refl _,.inr rfl,rfl,?_⟩;rw [xzji (f:=sRng lo lo) (g:=fun _=>false) (fun i _=>by unfold sRng;rw [Bool.eq_false_iff];simp)]
 case round=>
  obtain⟨b,hb0,hb1,rfl,rfl⟩:=hrel
  by_cases hlt:b<=hi
  ·have hb:b<256:=by omega
   have hbg:=xzgy (sRng lo b) hb;have hsz:=xzdv (sRng lo b);go_wp2;refine⟨⟨b+1,by omega,by omega,by go_num,?_⟩,by simp [intOf];omega⟩
   rw [xzzz,xzji (f:=updS (sRng lo b) b true) (g:=sRng lo (b+1)) (fun i _=>by
    unfold updS sRng
    by_cases e:i=b
    ·subst e;simp [hb0]
    ·rw [if_neg e,Bool.eq_iff_iff];simp;omega)]
  ·have hset:setV (sRange lo hi)=setV (sRng lo b):=xzhk fun j _=>by
    unfold sRange sRng;rw [Bool.eq_iff_iff];simp;omega
   have HS:=zd hset;clear hset
   have hblk:BlkIs ((w.alloc (.cells #[.int .u64 0,.int .u64 0,.int .u64 0,.int .u64 0] 47)).alloc (.cells (bools (sRng lo b)) 99)) (w.heap.size+1) 99 (bools (sRng lo b)):=by
    have:=BlkIs.new (w.alloc (.cells #[.int .u64 0,.int .u64 0,.int .u64 0,.int .u64 0] 47)) 99 (bools (sRng lo b))
    simpa using this
   have hR:=hblk.range
   have hI:(Tryz.prog.info? 99).map (·.size)=some (bools (sRng lo b)).toList.length:=by rw [info24,Array.length_toList,xzdv]
   clear hblk;have HI:=zd hI;have HR:=zd hR;clear hI hR
   go_wp2_with(first
    |(refine wpList_load_mid rfl 99 (.tmp 5) rfl (w.heap.size+1) 0 rfl (bools (sRng lo b)).toList _ HR.out Tryz.underlying99 rfl HI.out ?_;rw [yzaa])
    |(go_at_call 58;refine(yzew _ _).mono ?_;rintro e w1 ⟨rfl,hb1⟩;obtain⟨hc1,hf1,hz1⟩:=belowStep (g:=w.heap.size) hb1 (by simp;omega)))
   have hB1:Below w.heap.size w w1:=(((Below.refl _ _).alloc (Nat.le_refl _) _).alloc (by simp) _).trans (hb1.mono (by simp;omega));refine bodyPost_ret (v:=setV (sRng lo b)) (by simp [results,Tryz.results31,go_sem,hc1]) rfl ⟨congrArg Ending.returned HS.out.symm,?_⟩;exact(((hB1.setCell (p:=⟨w.heap.size,0,none⟩) (Nat.le_refl _) _).setCell (p:=⟨w.heap.size,1,none⟩) (Nat.le_refl _) _).setCell (p:=⟨w.heap.size,2,none⟩) (Nat.le_refl _) _).setCell (p:=⟨w.heap.size,3,none⟩) (Nat.le_refl _) _
end
end Go.Proofs.YtgbljnnmhmlifaaGreatDoor
