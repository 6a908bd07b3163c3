/-
 AT WHICH PLACES A TREE's TEXTS END: what is said of no program; and what hackleref04's Ends answers, at every tree that may be. Condition: each node of the tree may be; the text has at most 2^30 bytes.
-/
import Derived.Laws.CopyOwn
import Derived.Deep.OwnRows
import Derived.Lib.ItoaWalk
import Derived.Lib.Strings
import Derived.Test.YtgbljnnmhmlifaaGreatDoorQG05
import Derived.Test.YtgbljnnmhmlifaaGreatDoorQG04
namespace Go.Proofs.YtgbljnnmhmlifaaGreatDoor
section
open Go.RowKit
def bl (n:Nat)(f:Nat->Bool):Array Value:=((List.range n).map fun i=>Value.bool (f i)).toArray
theorem xzjm (n:Nat)(f:Nat->Bool):(bl n f).size=n:=by simp [bl]
theorem yzff {n:Nat}(f:Nat->Bool){i:Nat}(h:i<n):(bl n f)[i]? =some (.bool (f i)):=by
 unfold bl;rw [List.getElem?_toArray,List.getElem?_map,List.getElem?_range h];rfl
theorem xzcw {n:Nat}{f g:Nat->Bool}(h:∀ i,i<n->f i=g i):bl n f=bl n g:=by
 unfold bl;rw [List.map_congr_left (fun i hi=>by rw [h i (List.mem_range.1 hi)])]
theorem xzoc (n:Nat)(f:Nat->Bool)(i:Nat)(v:Bool):(bl n f).setIfInBounds i (.bool v)=bl n (updS f i v):=by
 apply Array.ext_getElem?
 intro j
 by_cases hj:j<n
 ·rw [Array.getElem?_setIfInBounds,yzff _ hj,yzff _ hj,xzjm]
  unfold updS
  by_cases e:i=j
  ·subst e;simp [hj]
  ·have e': ¬ j=i:=fun h=>e h.symm
   simp [e,e']
 ·rw [Array.getElem?_eq_none (by rw [Array.size_setIfInBounds,xzjm];omega),Array.getElem?_eq_none (by rw [xzjm];omega)]
theorem bl_made (n:Nat):madeCells #[Value.bool false] n=bl n (fun _=>false):=by
 unfold madeCells bl
 apply Array.ext'
 simp [Nat.mod_one]
theorem xzkt:(Tryz.prog.info? 4).map (fun i=>(i.zero,i.size,i.bytes))=some (some (.bool false),1,1):=by kernel_rfl
theorem xzda (n:Nat)(h:n<=1099511627776)(w:World):(Instr.makeSlice 28 (.int .i64 (n:Nat)) (.int .i64 (n:Nat))).run Tryz.prog w=.ok (.slice (some ⟨w.heap.size,0,none⟩) n n) (w.alloc (.cells (bl n (fun _=>false)) 4)):=by
 have:=run_make_row' (P:=Tryz.prog) 28 4 (.bool false) 1 Tryz.underlying28 xzkt rfl .i64 .i64 n (by omega) (by omega) w;rw [bl_made]at this;exact this
theorem bl_one (n:Nat)(f:Nat->Bool):∀ v∈(bl n f).toList,v.oneCell'=true:=by
 intro v hv;unfold bl at hv;simp only [List.mem_map]at hv;obtain⟨i,_,rfl⟩:=hv
 rfl
theorem xzba {w:World}{g n:Nat}{t:TypeId}{f:Nat->Bool}(h:BlkIs w g t (bl n f)){i:Nat}(hi:i<n):w.cell? ⟨g,i,none⟩=some (.bool (f i)):=by
 rw [h.cell i,yzff f hi]
theorem xzlv {w:World}{g g0 n:Nat}{f f':Nat->Bool}(hg:BlkIs w g 4 (bl n f'))(h0:BlkIs w g0 4 (bl n f)):
 (Builtin.copy_ #[28,28] 3 #[.slice (some ⟨g,0,none⟩) n n,.slice (some ⟨g0,0,none⟩) n n]).run Tryz.prog w=.ok (goInt n) (w.setRow g (bl n f)):=by
 have hlen:(bl n f).toList.length=n:=by rw [Array.length_toList,xzjm]
 have h:=run_copy_row (P:=Tryz.prog) w 28 28 3 4 g 0 n n ⟨g0,0,none⟩ n n (bl n f') 4 (bl n f).toList Tryz.underlying28 (by kernel_rfl) hg
  (by rw [hlen];simp) (fun j v hv=>by
   have:=h0.range j v hv;rw [Nat.zero_add]at this
   rw [Addr.add_lit,Nat.zero_add];exact this) (by rw [hlen,xzjm];omega) (bl_one n f)
 rw [hlen]at h;rw [h];have hd:(bl n f').toList.drop n=[]:=List.drop_of_length_le (by rw [Array.length_toList,xzjm];exact Nat.le_refl _)
 simp [hd]
theorem yzdx {w:World}{g:Nat}{t:TypeId}{cs cs':Array Value}(h:BlkIs w g t cs):BlkIs (w.setRow g cs') g t cs':=setRow_heap w g cs cs' t (0,0) h
theorem row_far {w:World}{g k:Nat}{t:TypeId}{cs cs':Array Value}(h:BlkIs w k t cs)(hk:k≠g):BlkIs (w.setRow g cs') k t cs:=by
 unfold BlkIs at*;rw [setRow_other w g k cs' hk];exact h
theorem xzku {P:Program}(t:TypeId)(ht:P.underlying t=some .string)(s:ByteArray)(i:Nat)(hi:i<s.size)(w:World):
 (Instr.index t (.string s) (.int .i64 (i:Nat))).run P w=.ok (.int .u8 ((s[i]'hi).toNat:Nat)) w:=by
 rw [run_index_string w t s .i64 _ ht,dif_pos ⟨by omega,by omega⟩]
 have e:((i:Int)).toNat=i:=by omega
 simp only [e]
def upTo (j:Nat)(f:Nat->Bool):Nat->Bool:=fun i=>decide (i<=j)&&f i
def stepB (m:Nat->Bool)(s:List UInt8)(f:Nat->Bool):Nat->Bool
 |0=>false
 |i+1=>f i&&(match s[i]? with|some c=>m c.toNat|none=>false)
theorem yzah {m:Nat->Bool}{s:List UInt8}{f:Nat->Bool}(i:Nat):upTo 0 (stepB m s f) i=false:=by
 unfold upTo
 cases i with
 |zero=>simp [stepB]
 |succ i=>simp
theorem yzai (j:Nat)(f:Nat->Bool):updS (upTo j f) (j+1) (f (j+1))=upTo (j+1) f:=by
 funext i
 unfold updS upTo
 by_cases h:i=j+1
 ·subst h;simp
 ·rw [if_neg h]
  congr 1
  apply decide_eq_decide.2;omega
theorem yzfg {n j:Nat}(h:n<=j+1)(f:Nat->Bool):bl n (upTo j f)=bl n f:=xzcw fun i hi=>by
 unfold upTo;rw [decide_eq_true (by omega),Bool.true_and]
def orB (f g:Nat->Bool):Nat->Bool:=fun i=>f i||g i
def mostOf (s:List UInt8)(lo hi:Int):Nat:=if hi<0 then lo.toNat+s.length+1 else hi.toNat
def iterE (E:(Nat->Bool)->Nat->Bool):Nat->(Nat->Bool)->Nat->Bool
 |0,f=>f
 |n+1,f=>E (iterE E n f)
def repTo (E:(Nat->Bool)->Nat->Bool)(lo most:Nat)(f:Nat->Bool):Nat->Bool:=fun i=>(List.range most).any fun n=>decide (lo<=n)&&iterE E n f i
mutual
def Tree.ends (s:List UInt8):Tree->(Nat->Bool)->Nat->Bool
 | .node k m l lo hi=>fun f=>if k=0 then f else if k=1 then stepB m s f else if k=2 then endsCat s l f else if k=3 then endsAlt s l f else repTo (headEnds s l) lo.toNat (mostOf s lo hi+1) f
def endsCat (s:List UInt8):List Tree->(Nat->Bool)->Nat->Bool
 |[]=>fun f=>f
 |t::r=>fun f=>endsCat s r (t.ends s f)
def endsAlt (s:List UInt8):List Tree->(Nat->Bool)->Nat->Bool
 |[]=>fun _ _=>false
 |t::r=>fun f=>orB (t.ends s f) (endsAlt s r f)
def headEnds (s:List UInt8):List Tree->(Nat->Bool)->Nat->Bool
 |[]=>fun f=>f
 |t::_=>t.ends s
end
theorem xzfg (s:List UInt8):∀ (l r:List Tree) (f:Nat->Bool),endsCat s (l++r) f=endsCat s r (endsCat s l f)
 |[],r,f=>by simp [endsCat]
 |a::l,r,f=>by simp only [List.cons_append,endsCat,xzfg s l r]
theorem xzod {s:List UInt8}{l:List Tree}{f:Nat->Bool}{i:Nat}(h:i<l.length):endsCat s (l.take (i+1)) f=(l[i]).ends s (endsCat s (l.take i) f):=by
 rw [<-List.take_append_getElem h,xzfg];simp [endsCat]
theorem xzfh (s:List UInt8)(x:Nat):∀ (l r:List Tree) (f:Nat->Bool),endsAlt s (l++r) f x=(endsAlt s l f x||endsAlt s r f x)
 |[],r,f=>by simp [endsAlt]
 |a::l,r,f=>by simp only [List.cons_append,endsAlt,orB,xzfh s x l r,Bool.or_assoc]
theorem xzoe {s:List UInt8}{l:List Tree}{f:Nat->Bool}{i:Nat}(h:i<l.length)(x:Nat):endsAlt s (l.take (i+1)) f x=(endsAlt s (l.take i) f x||(l[i]).ends s f x):=by
 rw [<-List.take_append_getElem h,xzfh];simp [endsAlt,orB]
theorem xzlw (E:(Nat->Bool)->Nat->Bool)(lo n:Nat)(f:Nat->Bool)(i:Nat):repTo E lo (n+1) f i=(repTo E lo n f i||(decide (lo<=n)&&iterE E n f i)):=by
 unfold repTo;rw [List.range_succ,List.any_append];simp
def EndsIs (n:Nat)(f':Nat->Bool)(w:World):Ending->World->Prop:=fun e w'=>∃ g,e=.returned (.slice (some ⟨g,0,none⟩) n n)/\w.heap.size<=g/\BlkIs w' g 4 (bl n f')/\Below w.heap.size w w'
theorem xzdx (k:Int)(m:Nat->Bool)(A:Option Addr)(q c n:Nat)(lo hi:Int)(w:World):
 Below w.heap.size w ((w.alloc (.cells (reL k m A q c lo hi).toArray 49)).alloc (.cells (bl n (fun _=>false)) 4))/\
 BlkIs ((w.alloc (.cells (reL k m A q c lo hi).toArray 49)).alloc (.cells (bl n (fun _=>false)) 4)) w.heap.size 49 (reL k m A q c lo hi).toArray/\
 BlkIs ((w.alloc (.cells (reL k m A q c lo hi).toArray 49)).alloc (.cells (bl n (fun _=>false)) 4)) (w.heap.size+1) 4 (bl n (fun _=>false)):=by
 have hout:=BlkIs.new (w.alloc (.cells (reL k m A q c lo hi).toArray 49)) 4 (bl n (fun _=>false));rw [World.size_alloc]at hout;exact⟨((Below.refl _ _).alloc (Nat.le_refl _) _).alloc (by simp) _,(BlkIs.new w 49 (reL k m A q c lo hi).toArray).alloc (.cells (bl n (fun _=>false)) 4),hout⟩
set_option maxHeartbeats 8000000 in
set_option maxRecDepth 20000 in
theorem ends_k0 (s:ByteArray)(hs30:s.size<=1073741824)(n:Nat)(hn:n=s.size+1)(m:Nat->Bool)(l:List Tree)(lo hi:Int)(A:Option Addr)(c:Nat)(w:World)(g0:Nat)(f:Nat->Bool)(hf0:BlkIs w g0 4 (bl n f)):
 Calls Tryz.prog 55 #[reV 0 m A l.length c lo hi,.string s,.slice (some ⟨g0,0,none⟩) n n] w (EndsIs n (f) w):=by
 have hw0:IntKind.i64.wrap ((s.size:Int)+1)=((n:Nat):Int):=by rw [IntKind.wrap_i64];omega
 have hmk:=fun w=>xzda n (by omega) w
 have hg0:=hf0.lt;have HB0:=zd (xzdx 0 m A l.length c n lo hi w);have HF0:=zd hf0;have HN:=zd hn;clear hf0 hn;unfold EndsIs;unfold reV reL at*
 go_enter Tryz.func55,Tryz.ntmps55
 have hcp:=xzlv HB0.out.2.2 ((HF0.out.alloc _).alloc _);go_wp2;go_ret;have hb:=HB0.out;exact⟨_,rfl,by omega,yzdx hb.2.2,below_setRow hb.1 (by omega) _⟩
set_option maxHeartbeats 8000000 in
set_option maxRecDepth 20000 in
theorem ends_k1 (s:ByteArray)(hs30:s.size<=1073741824)(n:Nat)(hn:n=s.size+1)(m:Nat->Bool)(l:List Tree)(lo hi:Int)(A:Option Addr)(c:Nat)(w:World)(g0:Nat)(f:Nat->Bool)(hf0:BlkIs w g0 4 (bl n f)):
 Calls Tryz.prog 55 #[reV 1 m A l.length c lo hi,.string s,.slice (some ⟨g0,0,none⟩) n n] w (EndsIs n (stepB m s.data.toList f) w):=by
 have hw0:IntKind.i64.wrap ((s.size:Int)+1)=((n:Nat):Int):=by rw [IntKind.wrap_i64];omega
 have hmk:=fun w=>xzda n (by omega) w
 have hg0:=hf0.lt;have HB0:=zd (xzdx 1 m A l.length c n lo hi w);have HF0:=zd hf0;have HN:=zd hn;clear hf0 hn;unfold EndsIs;unfold reV reL at*
 go_enter Tryz.func55,Tryz.ntmps55
 go_wp2;clear hmk hw0
 go_loopw [8] (fun i wr=>∃ j:Nat,i=.int .i64 j/\j<=s.size/\Hid (Below w.heap.size w wr/\BlkIs wr w.heap.size 49 (reL 1 m A l.length c lo hi).toArray/\BlkIs wr g0 4 (bl n f)/\BlkIs wr (w.heap.size+1) 4 (bl n (upTo j (stepB m s.data.toList f))))) (fun i _=>s.size - (intOf i).toNat)
 case atStart=>
  have hb:=HB0.out;exact⟨0,rfl,Nat.zero_le _,zd ⟨hb.1,hb.2.1,(HF0.out.alloc _).alloc _,by rw [xzcw (g:=fun _=>false) (fun i _=>yzah i)];exact hb.2.2⟩⟩
 case round=>
  obtain⟨j,rfl,hj,HH⟩:=hrel
  by_cases hp:j<s.size
  ·have hdl:decide ((j:Int)<(s.size:Int))=true:=by simp;omega
   have hgl:s[j]=s.data.toList[j]'hp:=by rw [Lib.getD_at s j hp];rw [List.getD_eq_getElem?_getD,List.getElem?_eq_getElem hp];rfl
   have hix:=xzku 9 Tryz.underlying9 s j hp (P:=Tryz.prog)
   have hx256:(s[j]'hp).toNat<256:=by have:=UInt8.toNat_lt (s[j]'hp);omega
   have hk1:IntKind.i64.wrap ((j:Int)+1)=((j+1:Nat):Int):=by rw [IntKind.wrap_i64];omega
   have hk2:IntKind.i64.wrap (((s[j]'hp).toNat:Nat):Int)=(((s[j]'hp).toNat:Nat):Int):=by rw [IntKind.wrap_i64];omega
   have hcall:=fun u=>xzhl m (s[j]'hp).toNat hx256 u
   have hjn:j<n:=by have:=HN.out;omega
   have hjn1:j+1<n:=by have:=HN.out;omega
   have hst:stepB m s.data.toList f (j+1)=(f j&&m (s[j]'hp).toNat):=by
    show(f j&&_)=_
    rw [List.getElem?_eq_getElem hp,<-hgl]
   have hup:=yzai j (stepB m s.data.toList f);rw [hst]at hup;have HUP:=zd hup;have HC:=zd hcall
   have hce:∀ u:World,BlkIs u w.heap.size 49 (reL 1 m A l.length c lo hi).toArray->BlkIs u g0 4 (bl n f)->
    u.cell? ⟨w.heap.size,1,none⟩=some (.int .u64 (wd m 0:Nat))/\u.cell? ⟨w.heap.size,2,none⟩=some (.int .u64 (wd m 1:Nat))/\u.cell? ⟨w.heap.size,3,none⟩=some (.int .u64 (wd m 2:Nat))/\u.cell? ⟨w.heap.size,4,none⟩=some (.int .u64 (wd m 3:Nat))/\
    u.cell? ⟨g0,j,none⟩=some (.bool (f j)):=fun u h1 h2=>⟨h1.cell 1,h1.cell 2,h1.cell 3,h1.cell 4,xzba h2 hjn⟩
   have HCE:=zd hce;clear hce;clear hcall hgl hst hup;unfold setV at HC;generalize hfj:f j=q at*;generalize hmj:m (s[j]'hp).toNat=r at*
   by_cases hq:q=false
   ·have HQ:=zd hq
    clear hq
    go_wp2_with fail
    refine xzdg 16 16 159 (fun u=>Below w.heap.size w u/\BlkIs u w.heap.size 49 (reL 1 m A l.length c lo hi).toArray/\BlkIs u g0 4 (bl n f)/\BlkIs u (w.heap.size+1) 4 (bl n (upTo j (stepB m s.data.toList f))))
     (fun _=>#[]) (fun _=>0) (by kernel_rfl) (by kernel_rfl) rfl ⟨HH.out.1.drew,HH.out.2.1,HH.out.2.2.1,HH.out.2.2.2⟩ (fun u u' h hb=>⟨h.1.trans (hb.mono h.1.size),h.2.1.step hb,h.2.2.1.step hb,h.2.2.2.step hb⟩) (fun i o h1 h2=>absurd h1 (by omega)) ?_
    clear hdl;simp only [List.take_succ_cons,List.take_zero,List.drop_succ_cons,List.drop_zero]
    refine xzaf fun K hK=>?_
    go_simp
    apply Exists.intro
    refine⟨fun v hv1 hv2 hv3 hv4=>?_,hK _ ?_⟩
    ·obtain⟨b1,b2,b3,b4,b5⟩:=HCE.out v hv2 hv3
     unfold freeAt
     first
      |(go_simp;exact xzar)
      |(go_simp;apply xzah;go_at_call 56;exact HC.out _)
    clear hK K
    refine xzaf fun K hK=>?_
    go_simp
    apply Exists.intro
    refine⟨fun v hv1 hv2 hv3 hv4=>?_,hK _ ?_⟩
    ·obtain⟨b1,b2,b3,b4,b5⟩:=HCE.out v hv2 hv3
     unfold freeAt
     first
      |(go_simp;exact xzar)
      |(go_simp;apply xzah;go_at_call 56;exact HC.out _)
    clear hK K
    refine xzaf fun K hK=>?_
    go_simp
    apply Exists.intro
    refine⟨fun v hv1 hv2 hv3 hv4=>?_,hK _ ?_⟩
    ·obtain⟨b1,b2,b3,b4,b5⟩:=HCE.out v hv2 hv3
     unfold freeAt
     first
      |(go_simp;exact xzar)
      |(go_simp;apply xzah;go_at_call 56;exact HC.out _)
    clear hK K
    refine xzaf fun K hK=>?_
    go_simp
    apply Exists.intro
    refine⟨fun v hv1 hv2 hv3 hv4=>?_,hK _ ?_⟩
    ·obtain⟨b1,b2,b3,b4,b5⟩:=HCE.out v hv2 hv3
     unfold freeAt
     first
      |(go_simp;exact xzar)
      |(go_simp;apply xzah;go_at_call 56;exact HC.out _)
    clear hK K
    refine xzaf fun K hK=>?_
    go_simp
    apply Exists.intro
    refine⟨fun v hv1 hv2 hv3 hv4=>?_,hK _ ?_⟩
    ·obtain⟨b1,b2,b3,b4,b5⟩:=HCE.out v hv2 hv3
     unfold freeAt
     first
      |(go_simp;exact xzar)
      |(go_simp;apply xzah;go_at_call 56;exact HC.out _)
    clear hK K
    refine xzaf fun K hK=>?_
    go_simp
    apply Exists.intro
    refine⟨fun v hv1 hv2 hv3 hv4=>?_,hK _ ?_⟩
    ·obtain⟨b1,b2,b3,b4,b5⟩:=HCE.out v hv2 hv3
     unfold freeAt
     first
      |(go_simp;exact xzar)
      |(go_simp;apply xzah;go_at_call 56;exact HC.out _)
    clear hK K
    refine xzaf fun K hK=>?_
    go_simp
    apply Exists.intro
    refine⟨fun v hv1 hv2 hv3 hv4=>?_,hK _ ?_⟩
    ·obtain⟨b1,b2,b3,b4,b5⟩:=HCE.out v hv2 hv3
     unfold freeAt
     first
      |(go_simp;exact xzar)
      |(go_simp;apply xzah;go_at_call 56;exact HC.out _)
    clear hK K
    refine xzaf fun K hK=>?_
    go_simp
    apply Exists.intro
    refine⟨fun v hv1 hv2 hv3 hv4=>?_,hK _ ?_⟩
    ·obtain⟨b1,b2,b3,b4,b5⟩:=HCE.out v hv2 hv3
     unfold freeAt
     first
      |(go_simp;exact xzar)
      |(go_simp;apply xzah;go_at_call 56;exact HC.out _)
    clear hK K
    refine xzaf fun K hK=>?_
    refine xzcb 7 92 true rfl rfl (by go_simp;exact HQ.out) ?_;have HK:=zd hK;clear hK;go_simp;have hK:=HK.out;clear HK;refine hK _ ?_;clear hK K
    refine xzaf fun K hK=>?_
    refine xzcb 7 92 true rfl rfl (by go_simp;exact HQ.out) ?_;have HK:=zd hK;clear hK;go_simp;have hK:=HK.out;clear HK;refine hK _ ?_;clear hK K
    refine xzaf fun K hK=>?_
    refine xzcb 7 92 true rfl rfl (by go_simp;exact HQ.out) ?_;have HK:=zd hK;clear hK;go_simp;have hK:=HK.out;clear HK;refine hK _ ?_;clear hK K
    refine xzaf fun K hK=>?_
    refine xzcb 7 92 true rfl rfl (by go_simp;exact HQ.out) ?_;have HK:=zd hK;clear hK;go_simp;have hK:=HK.out;clear HK;refine hK _ ?_;clear hK K
    refine xzaf fun K hK=>?_
    refine xzcb 7 92 true rfl rfl (by go_simp;exact HQ.out) ?_;have HK:=zd hK;clear hK;go_simp;have hK:=HK.out;clear HK;refine hK _ ?_;clear hK K
    refine xzaf fun K hK=>?_
    refine xzcb 7 92 true rfl rfl (by go_simp;exact HQ.out) ?_;have HK:=zd hK;clear hK;go_simp;have hK:=HK.out;clear HK;refine hK _ ?_;clear hK K
    refine xzaf fun K hK=>?_
    refine xzcb 7 92 true rfl rfl (by go_simp;exact HQ.out) ?_;have HK:=zd hK;clear hK;go_simp;have hK:=HK.out;clear HK;refine hK _ ?_;clear hK K;obtain rfl:=HQ.out
    refine xzaf fun K hK=>?_
    go_simp
    apply Exists.intro
    refine⟨fun v hv1 hv2 hv3 hv4=>?_,hK _ ?_⟩
    ·obtain⟨b1,b2,b3,b4,b5⟩:=HCE.out v hv2 hv3
     unfold freeAt
     first
      |(go_simp;exact xzar)
      |(go_simp;apply xzah;go_at_call 56;exact HC.out _)
    clear hK K;refine xzdf ?_;rintro g u ⟨hu1,hu2,hu3,hu4⟩ hb - -;clear hb;have HU:=zd (And.intro hu1 (And.intro hu2 (And.intro hu3 hu4)));have d1:=xzba hu4 hjn1;have d2:=hu4.frozen (j+1);clear hu1 hu2 hu3 hu4;rw [Nat.sub_self,List.take_zero];unfold putNews
    have hji:(j:Int)+1<(n:Int):=by omega
    go_wp2;refine⟨⟨j+1,by go_num,hp,zd ⟨HU.out.1.setCell (p:=⟨_,_,none⟩) (by simp) _,HU.out.2.1.far (by simp) _,HU.out.2.2.1.far (by simp;omega) _,?_⟩⟩,by simp [intOf];omega⟩;rw [<-HUP.out,<-xzoc];exact HU.out.2.2.2.put _ _
   ·obtain rfl:q=true:=by simpa using hq
    go_wp2_with fail
    refine xzdg 16 16 159 (fun u=>Below w.heap.size w u/\BlkIs u w.heap.size 49 (reL 1 m A l.length c lo hi).toArray/\BlkIs u g0 4 (bl n f)/\BlkIs u (w.heap.size+1) 4 (bl n (upTo j (stepB m s.data.toList f))))
     (fun _=>#[]) (fun _=>0) (by kernel_rfl) (by kernel_rfl) rfl ⟨HH.out.1.drew,HH.out.2.1,HH.out.2.2.1,HH.out.2.2.2⟩ (fun u u' h hb=>⟨h.1.trans (hb.mono h.1.size),h.2.1.step hb,h.2.2.1.step hb,h.2.2.2.step hb⟩) (fun i o h1 h2=>absurd h1 (by omega)) ?_
    clear hdl;simp only [List.take_succ_cons,List.take_zero,List.drop_succ_cons,List.drop_zero]
    refine xzaf fun K hK=>?_
    go_simp
    apply Exists.intro
    refine⟨fun v hv1 hv2 hv3 hv4=>?_,hK _ ?_⟩
    ·obtain⟨b1,b2,b3,b4,b5⟩:=HCE.out v hv2 hv3
     unfold freeAt
     first
      |(go_simp;exact xzar)
      |(go_simp;apply xzah;go_at_call 56;exact HC.out _)
    clear hK K
    refine xzaf fun K hK=>?_
    go_simp
    apply Exists.intro
    refine⟨fun v hv1 hv2 hv3 hv4=>?_,hK _ ?_⟩
    ·obtain⟨b1,b2,b3,b4,b5⟩:=HCE.out v hv2 hv3
     unfold freeAt
     first
      |(go_simp;exact xzar)
      |(go_simp;apply xzah;go_at_call 56;exact HC.out _)
    clear hK K
    refine xzaf fun K hK=>?_
    go_simp
    apply Exists.intro
    refine⟨fun v hv1 hv2 hv3 hv4=>?_,hK _ ?_⟩
    ·obtain⟨b1,b2,b3,b4,b5⟩:=HCE.out v hv2 hv3
     unfold freeAt
     first
      |(go_simp;exact xzar)
      |(go_simp;apply xzah;go_at_call 56;exact HC.out _)
    clear hK K
    refine xzaf fun K hK=>?_
    go_simp
    apply Exists.intro
    refine⟨fun v hv1 hv2 hv3 hv4=>?_,hK _ ?_⟩
    ·obtain⟨b1,b2,b3,b4,b5⟩:=HCE.out v hv2 hv3
     unfold freeAt
     first
      |(go_simp;exact xzar)
      |(go_simp;apply xzah;go_at_call 56;exact HC.out _)
    clear hK K
    refine xzaf fun K hK=>?_
    go_simp
    apply Exists.intro
    refine⟨fun v hv1 hv2 hv3 hv4=>?_,hK _ ?_⟩
    ·obtain⟨b1,b2,b3,b4,b5⟩:=HCE.out v hv2 hv3
     unfold freeAt
     first
      |(go_simp;exact xzar)
      |(go_simp;apply xzah;go_at_call 56;exact HC.out _)
    clear hK K
    refine xzaf fun K hK=>?_
    go_simp
    apply Exists.intro
    refine⟨fun v hv1 hv2 hv3 hv4=>?_,hK _ ?_⟩
    ·obtain⟨b1,b2,b3,b4,b5⟩:=HCE.out v hv2 hv3
     unfold freeAt
     first
      |(go_simp;exact xzar)
      |(go_simp;apply xzah;go_at_call 56;exact HC.out _)
    clear hK K
    refine xzaf fun K hK=>?_
    go_simp
    apply Exists.intro
    refine⟨fun v hv1 hv2 hv3 hv4=>?_,hK _ ?_⟩
    ·obtain⟨b1,b2,b3,b4,b5⟩:=HCE.out v hv2 hv3
     unfold freeAt
     first
      |(go_simp;exact xzar)
      |(go_simp;apply xzah;go_at_call 56;exact HC.out _)
    clear hK K
    refine xzaf fun K hK=>?_
    go_simp
    apply Exists.intro
    refine⟨fun v hv1 hv2 hv3 hv4=>?_,hK _ ?_⟩
    ·obtain⟨b1,b2,b3,b4,b5⟩:=HCE.out v hv2 hv3
     unfold freeAt
     first
      |(go_simp;exact xzar)
      |(go_simp;apply xzah;go_at_call 56;exact HC.out _)
    clear hK K
    refine xzaf fun K hK=>?_
    refine xzbm 7 92 true rfl rfl (by go_simp) ?_;go_simp
    apply Exists.intro
    refine⟨fun v hv1 hv2 hv3 hv4=>?_,hK _ ?_⟩
    ·obtain⟨b1,b2,b3,b4,b5⟩:=HCE.out v hv2 hv3
     unfold freeAt
     first
      |(go_simp;exact xzar)
      |(go_simp;apply xzah;go_at_call 56;exact HC.out _)
    clear hK K
    refine xzaf fun K hK=>?_
    refine xzbm 7 92 true rfl rfl (by go_simp) ?_;go_simp
    apply Exists.intro
    refine⟨fun v hv1 hv2 hv3 hv4=>?_,hK _ ?_⟩
    ·obtain⟨b1,b2,b3,b4,b5⟩:=HCE.out v hv2 hv3
     unfold freeAt
     first
      |(go_simp;exact xzar)
      |(go_simp;apply xzah;go_at_call 56;exact HC.out _)
    clear hK K
    refine xzaf fun K hK=>?_
    refine xzbm 7 92 true rfl rfl (by go_simp) ?_;go_simp
    apply Exists.intro
    refine⟨fun v hv1 hv2 hv3 hv4=>?_,hK _ ?_⟩
    ·obtain⟨b1,b2,b3,b4,b5⟩:=HCE.out v hv2 hv3
     unfold freeAt
     first
      |(go_simp;exact xzar)
      |(go_simp;apply xzah;go_at_call 56;exact HC.out _)
    clear hK K
    refine xzaf fun K hK=>?_
    refine xzbm 7 92 true rfl rfl (by go_simp) ?_;go_simp
    apply Exists.intro
    refine⟨fun v hv1 hv2 hv3 hv4=>?_,hK _ ?_⟩
    ·obtain⟨b1,b2,b3,b4,b5⟩:=HCE.out v hv2 hv3
     unfold freeAt
     first
      |(go_simp;exact xzar)
      |(go_simp;apply xzah;go_at_call 56;exact HC.out _)
    clear hK K
    refine xzaf fun K hK=>?_
    refine xzbm 7 92 true rfl rfl (by go_simp) ?_;go_simp
    apply Exists.intro
    refine⟨fun v hv1 hv2 hv3 hv4=>?_,hK _ ?_⟩
    ·obtain⟨b1,b2,b3,b4,b5⟩:=HCE.out v hv2 hv3
     unfold freeAt
     first
      |(go_simp;exact xzar)
      |(go_simp;apply xzah;go_at_call 56;exact HC.out _)
    clear hK K
    refine xzaf fun K hK=>?_
    refine xzbm 7 92 true rfl rfl (by go_simp) ?_;go_simp
    apply Exists.intro
    refine⟨fun v hv1 hv2 hv3 hv4=>?_,hK _ ?_⟩
    ·obtain⟨b1,b2,b3,b4,b5⟩:=HCE.out v hv2 hv3
     unfold freeAt
     first
      |(go_simp;exact xzar)
      |(go_simp;apply xzah;go_at_call 56;exact HC.out _)
    clear hK K
    refine xzaf fun K hK=>?_
    refine xzbm 7 92 true rfl rfl (by go_simp) ?_;go_simp
    apply Exists.intro
    refine⟨fun v hv1 hv2 hv3 hv4=>?_,hK _ ?_⟩
    ·obtain⟨b1,b2,b3,b4,b5⟩:=HCE.out v hv2 hv3
     unfold freeAt
     first
      |(go_simp;exact xzar)
      |(go_simp;apply xzah;go_at_call 56;exact HC.out _)
    clear hK K
    refine xzaf fun K hK=>?_
    go_simp
    apply Exists.intro
    refine⟨fun v hv1 hv2 hv3 hv4=>?_,hK _ ?_⟩
    ·obtain⟨b1,b2,b3,b4,b5⟩:=HCE.out v hv2 hv3
     unfold freeAt
     first
      |(go_simp;exact xzar)
      |(go_simp;apply xzah;go_at_call 56;exact HC.out _)
    clear hK K;refine xzdf ?_;rintro g u ⟨hu1,hu2,hu3,hu4⟩ hb - -;clear hb;have HU:=zd (And.intro hu1 (And.intro hu2 (And.intro hu3 hu4)));have d1:=xzba hu4 hjn1;have d2:=hu4.frozen (j+1);clear hu1 hu2 hu3 hu4;rw [Nat.sub_self,List.take_zero];unfold putNews
    have hji:(j:Int)+1<(n:Int):=by omega
    go_wp2;refine⟨⟨j+1,by go_num,hp,zd ⟨HU.out.1.setCell (p:=⟨_,_,none⟩) (by simp) _,HU.out.2.1.far (by simp) _,HU.out.2.2.1.far (by simp;omega) _,?_⟩⟩,by simp [intOf];omega⟩;rw [<-HUP.out,<-xzoc];exact HU.out.2.2.2.put _ _
  ·have hdl:decide ((j:Int)<(s.size:Int))=false:=by simp;omega
   obtain rfl:j=s.size:=by omega
   go_wp2;go_ret;have hb:=HH.out;refine⟨_,rfl,by omega,?_,hb.1⟩;have hb4:=hb.2.2.2;rw [yzfg (Nat.le_of_eq HN.out)]at hb4;exact hb4
end
section
open Go.RowKit
def Nf.followAt (N:Nf)(p:Int):List Int:=N.follow.getD p.toNat []
def hasI (l:List Int)(q:Nat):Bool:=l.any fun x=>x==(q:Int)
def markF (N:Nf)(at':List Int)(q:Nat):Bool:=at'.any fun p=>hasI (N.followAt p) q
def keepTo (k:Nat)(f:Nat->Bool)(N:Nf)(c:Nat):List Int:=((List.range k).filter fun q=>f q&&N.setAt q c).map fun(i:Nat)=>(i:Int)
theorem xzqg (l:List Int)(j:Nat)(h:j<l.length)(q:Nat):hasI (l.take (j+1)) q=(hasI (l.take j) q||(l[j]==(q:Int))):=by
 unfold hasI;rw [List.take_succ_eq_append_getElem h,List.any_append];simp
end
section
open Go.RowKit
attribute [local irreducible] FreeW
def marks0 (N:Nf)(b:Bool)(q:Nat):Bool:=b&&hasI N.first q
def marksS (N:Nf)(b:Bool)(at':List Int)(q:Nat):Bool:=marks0 N b q||markF N at' q
theorem RowI.low {B B':Nat}{W:World}{v:Value}{l:List Int}(h:RowI B W v l)(hb:B'<=B):RowI B' W v l:=
 ⟨h.1,h.2.imp id fun⟨g,cap,cur,e,h1,r⟩=>⟨g,cap,cur,e,Nat.le_trans hb h1,r⟩⟩
end
section
open Go.RowKit
theorem NfaAt.form {W:World}{N:Nf}{v:Value}(h:NfaAt W N v):∃ A0 A1 A2 A3 A4 c0 c1 c2 c3 c4,v=.agg #[.slice A0 N.sets.length c0,.slice A1 N.rules.length c1,.slice A2 N.first.length c2,.slice A3 N.follow.length c3,.slice A4 N.ends.length c4,.int .i64 N.empty]:=by
 obtain⟨v0,v1,v2,v3,v4,rfl,⟨A0,c0,rfl,_,_⟩,⟨A1,c1,rfl,_,_⟩,⟨A2,c2,rfl,_,_⟩,⟨A3,c3,rfl,_,_⟩,⟨A4,c4,rfl,_,_⟩⟩:=h;exact⟨A0,A1,A2,A3,A4,c0,c1,c2,c3,c4,rfl⟩
theorem xzhp {all:Int}:∀ (l:List Int) (a:Int),risesB all a l=true->∀ p∈l,a<p/\p<all
 |[],_,_,p,hp=>by cases hp
 |x::r,a,h,p,hp=>by
  unfold risesB at h;simp only [Bool.and_eq_true,decide_eq_true_eq]at h
  rcases List.mem_cons.1 hp with rfl|hp
  ·exact h.1
  ·have:=xzhp r x h.2 p hp
   omega
theorem xzqh {all:Int}:∀ (l:List Int) (a:Int),risesB all a l=true->l=[]\/(l.length:Int)+a<all
 |[],_,_=>.inl rfl
 |x::r,a,h=>by
  unfold risesB at h;simp only [Bool.and_eq_true,decide_eq_true_eq]at h;refine .inr ?_
  rcases xzqh r x h.2 with rfl|h2
  ·simp;omega
  ·simp only [List.length_cons];omega
structure MayIs (N:Nf):Prop where
 small:N.sets.length<=2000
 rules:N.rules.length=N.sets.length
 follow:N.follow.length=N.sets.length
 ends:N.ends.length=N.sets.length
 rule:∀ r∈N.rules,0<=r/\r<40
 row:∀ r∈N.follow,risesB N.sets.length (-1) r=true
 first:risesB N.sets.length (-1) N.first=true
 empty: -1<=N.empty/\N.empty<40
theorem xzux {N:Nf}(h:N.may=true):MayIs N:=by
 unfold Nf.may Nf.sized Nf.rest okR at h;simp only [Bool.and_eq_true,decide_eq_true_eq,beq_iff_eq,List.all_eq_true]at h;obtain⟨⟨⟨h1,h2⟩,h3,h4⟩,h5,h6,h7,h8,h9⟩:=h;exact⟨h1,h2,h3,h4,h5,h6,h7,h8,h9⟩
theorem MayIs.firsts {N:Nf}(h:MayIs N):(∀ p∈N.first,0<=p/\p<(N.sets.length:Int))/\N.first.length<=2000:=by
 refine⟨fun p hp=>by have:=xzhp _ _ h.first p hp;omega,?_⟩;have hs:=h.small
 rcases xzqh _ _ h.first with e|e
 ·rw [e];simp
 ·omega
theorem MayIs.rows {N:Nf}(h:MayIs N):∀ r∈N.follow,∀ x∈r,0<=x/\x<(N.sets.length:Int):=fun r hr x hx=>by
 have:=xzhp _ _ (h.row r hr) x hx;omega
theorem MayIs.ruleAt {N:Nf}(h:MayIs N)(p:Int):0<=N.ruleAt p/\N.ruleAt p<40:=by
 unfold Nf.ruleAt;rw [List.getD_eq_getElem?_getD]
 by_cases e:p.toNat<N.rules.length
 ·rw [List.getElem?_eq_getElem e];exact h.rule _ (List.getElem_mem e)
 ·rw [List.getElem?_eq_none (by omega)];simp
end
section
open Go.RowKit
def b8 (s:ByteArray)(i:Nat):Nat:=if h:i<s.size then(s[i]'h).toNat else 0
theorem yzfh (s:ByteArray)(i:Nat):b8 s i<256:=by
 unfold b8;split
 ·exact UInt8.toNat_lt _
 ·decide
def atTo (N:Nf)(s:ByteArray):Nat->List Int
 |0=>[]
 |1=>beginL N (b8 s 0)
 |j+2=>keepTo N.sets.length (markF N (atTo N s (j+1))) N (b8 s (j+1))
theorem xzqi (N:Nf)(s:ByteArray){j:Nat}(h:1<=j):atTo N s (j+1)=keepTo N.sets.length (markF N (atTo N s j)) N (b8 s j):=by
 obtain⟨k,rfl⟩:∃ k,j=k+1:=⟨j - 1,by omega⟩
 rfl
theorem xzuy {k:Nat}{f:Nat->Bool}{N:Nf}{c:Nat}:∀ p∈keepTo k f N c,0<=p/\p<(k:Int):=fun p hp=>by
 unfold keepTo at hp;obtain⟨i,hi,rfl⟩:=List.mem_map.1 hp;have:=List.mem_range.1 (List.mem_filter.1 hi).1;omega
theorem yzfi (k:Nat)(N:Nf)(c:Nat):keepTo k (markF N []) N c=[]:=by
 unfold keepTo markF
 simp
theorem yzdy {N:Nf}(h:MayIs N)(s:ByteArray):∀ j,∀ p∈atTo N s j,0<=p/\p<(N.sets.length:Int)
 |0=>fun p hp=>by cases hp
 |1=>fun p hp=>by
  unfold atTo beginL at hp;exact h.firsts.1 p (List.mem_filter.1 hp).1
 |j+2=>fun p hp=>by
  unfold atTo at hp;exact xzuy p hp
def ranT (N:Nf)(s:ByteArray):Int:=if N.may then(if s.size=0 then N.empty else tagL N (atTo N s s.size))else -1
end
section
open Go.RowKit
theorem xzof (k pn:Nat)(P:Nat->Bool)(hk:pn<k)(hp:P pn=true)(hl:∀ q,q<pn->P q=false):(List.range k).filter P=pn::(List.range k).filter fun(q:Nat)=>decide (pn<q)&&P q:=by
 obtain⟨b,rfl⟩:∃ b,k=(pn+1)+b:=⟨k - (pn+1),by omega⟩;rw [List.range_add,List.filter_append,List.filter_append]
 have h1:(List.range (pn+1)).filter P=[pn]:=by
  rw [List.range_succ,List.filter_append]
  have:(List.range pn).filter P=[]:=List.filter_eq_nil_iff.2 fun q hq=>by
   rw [hl q (List.mem_range.1 hq)];simp
  rw [this]
  simp [hp]
 have h2:(List.range (pn+1)).filter (fun q=>decide (pn<q)&&P q)=[]:=List.filter_eq_nil_iff.2 fun q hq=>by
  have:=List.mem_range.1 hq;have:decide (pn<q)=false:=decide_eq_false (by omega);rw [this];simp
 have h3:((List.range b).map (pn+1+ ·)).filter P=((List.range b).map (pn+1+ ·)).filter fun q=>decide (pn<q)&&P q:=by
  apply List.filter_congr
  intro q hq;obtain⟨i,_,rfl⟩:=List.mem_map.1 hq;have:decide (pn<pn+1+i)=true:=decide_eq_true (by omega);rw [this];simp
 rw [h1,h2,h3]
 rfl
theorem hasI_mem {l:List Int}{q:Nat}:hasI l q=true↔(q:Int)∈l:=by
 unfold hasI;rw [List.any_eq_true]
 constructor
 ·rintro⟨x,hx,e⟩
  have:x=(q:Int):=by simpa using e
  rw [<-this];exact hx
 ·intro h
  exact⟨_,h,by simp⟩
theorem xzlx (k:Nat):∀ (l:List Int) (a:Int), -1<=a->risesB k a l=true->l=((List.range k).filter fun(q:Nat)=>decide (a<(q:Int))&&hasI l q).map fun(q:Nat)=>(q:Int)
 |[],a,_,_=>by
  have:((List.range k).filter fun(q:Nat)=>decide (a<(q:Int))&&hasI [] q)=[]:=List.filter_eq_nil_iff.2 fun q _=>by simp [hasI]
  rw [this];rfl
 |p::r,a,ha,h=>by
  have hin:=xzhp _ _ h;unfold risesB at h;simp only [Bool.and_eq_true,decide_eq_true_eq]at h;obtain⟨pn,rfl⟩:=Int.eq_ofNat_of_zero_le (show 0<=p by omega);have hr:=xzhp _ _ h.2
  rw [xzof k pn _ (by omega) (by rw [decide_eq_true h.1.1,hasI_mem.2 (by simp)];rfl) (fun q hq=>by
   rw [Bool.eq_false_iff];intro e;rw [Bool.and_eq_true]at e;have hm:=hasI_mem.1 e.2
   rcases List.mem_cons.1 hm with e2|hm
   ·omega
   ·have:=(hr _ hm).1;omega)]
  rw [List.map_cons]
  congr 1
  have ih:=xzlx k r (pn:Int) (by omega) h.2
  have e:((List.range k).filter fun(q:Nat)=>decide (pn<q)&&(decide (a<(q:Int))&&hasI ((pn:Int)::r) q))=(List.range k).filter fun(q:Nat)=>decide ((pn:Int)<(q:Int))&&hasI r q:=by
   apply List.filter_congr
   intro q _
   by_cases hq:pn<q
   ·have e1:decide ((pn:Int)<(q:Int))=true:=decide_eq_true (by omega)
    have e2:decide (a<(q:Int))=true:=decide_eq_true (by omega)
    have e3:hasI ((pn:Int)::r) q=hasI r q:=by
     unfold hasI;rw [List.any_cons]
     have:((pn:Int)==(q:Int))=false:=by simp;omega
     rw [this];simp
    rw [decide_eq_true hq,e1,e2,e3];simp
   ·have e1:decide ((pn:Int)<(q:Int))=false:=decide_eq_false (by omega)
    rw [decide_eq_false hq,e1];simp
  rw [e];exact ih
theorem xzsx (N:Nf)(c:Nat)(h:risesB N.sets.length (-1) N.first=true):beginL N c=keepTo N.sets.length (marks0 N true) N c:=by
 have hr:=xzlx N.sets.length N.first (-1) (by omega) h;unfold beginL keepTo
 conv=>lhs;rw [hr]
 rw [List.filter_map,List.filter_filter]
 congr 1
 apply List.filter_congr
 intro q _;have e:decide ((-1:Int)<(q:Int))=true:=decide_eq_true (by omega);simp only [Function.comp,marks0,e,Bool.true_and,Bool.and_comm]
end
section
open Go.RowKit
end
end Go.Proofs.YtgbljnnmhmlifaaGreatDoor
