/-
 WHAT hackleref04's Void AND Sets ANSWER, at every tree that may be: contracts. Condition: each node of the tree may be.
-/
import Derived.Laws.CopyOwn
import Derived.Deep.OwnRows
import Derived.Lib.ItoaWalk
import Derived.Test.YthoaaginadjaoaaQG03
import Derived.Test.YthoaaginadjaoaaQG04
namespace Go.Proofs.Ythoaaginadjaoaa
section
open Go.RowKit
theorem xzas {k:Int}{m:Nat->Bool}{n:Nat}{lo hi:Int}(h:okNode k m n lo hi=true):
 (k=0/\n=0)\/(k=1/\n=0)\/(k=2/\2<=n)\/(k=3/\2<=n)\/(k=4/\n=1/\0<=lo/\lo<=64/\(hi= -1\/lo<=hi/\hi<=64)):=by
 unfold okNode at h
 split at h
 ·cases h
 ·split at h
  ·rename_i h2;have:=of_decide_eq_true h;omega
  ·split at h
   ·rename_i h2;have:=of_decide_eq_true h;omega
   ·split at h
    ·have:=of_decide_eq_true h;omega
    ·cases h
theorem xzcb {k:Int}{m:Nat->Bool}{l:List Tree}{lo hi:Int}(h:Tree.ok (.node k m l lo hi)=true):(∀ t∈l,t.ok=true)/\okNode k m l.length lo hi=true:=by
 unfold Tree.ok at h;rw [Bool.and_eq_true,xzfh]at h;exact h
mutual
def Tree.void:Tree->Bool
 | .node k m l lo _=>if k=0 then false else if k=1 then setEq m (fun _=>false)else if k=2 then anyVoid l else if k=3 then allVoid l else(decide (0<lo)&&headVoid l)
def anyVoid:List Tree->Bool
 |[]=>false
 |t::r=>t.void||anyVoid r
def allVoid:List Tree->Bool
 |[]=>true
 |t::r=>t.void&&allVoid r
def headVoid:List Tree->Bool
 |[]=>false
 |t::_=>t.void
end
theorem xzfd {l:List Tree}{i:Nat}(h:i<l.length){t:Tree}(ht:t∈l.take (i+1)):t∈l.take i\/t=l[i]:=by
 rw [<-List.take_append_getElem h,List.mem_append]at ht
 rcases ht with ht|ht
 ·exact .inl ht
 ·exact .inr (by simpa using ht)
end
section
open Go.RowKit
def bl (n:Nat)(f:Nat->Bool):Array Value:=((List.range n).map fun i=>Value.bool (f i)).toArray
theorem xzgz (n:Nat)(f:Nat->Bool):(bl n f).size=n:=by simp [bl]
theorem xzuc {n:Nat}(f:Nat->Bool){i:Nat}(h:i<n):(bl n f)[i]? =some (.bool (f i)):=by
 unfold bl;rw [List.getElem?_toArray,List.getElem?_map,List.getElem?_range h];rfl
theorem xzbi {n:Nat}{f g:Nat->Bool}(h:∀ i,i<n->f i=g i):bl n f=bl n g:=by
 unfold bl;rw [List.map_congr_left (fun i hi=>by rw [h i (List.mem_range.1 hi)])]
theorem xzgq (n:Nat)(f:Nat->Bool)(i:Nat)(v:Bool):(bl n f).setIfInBounds i (.bool v)=bl n (updS f i v):=by
 apply Array.ext_getElem?
 intro j
 by_cases hj:j<n
 ·rw [Array.getElem?_setIfInBounds,xzuc _ hj,xzuc _ hj,xzgz]
  unfold updS
  by_cases e:i=j
  ·subst e;simp [hj]
  ·have e': ¬ j=i:=fun h=>e h.symm
   simp [e,e']
 ·rw [Array.getElem?_eq_none (by rw [Array.size_setIfInBounds,xzgz];omega),Array.getElem?_eq_none (by rw [xzgz];omega)]
theorem bl_made (n:Nat):madeCells #[Value.bool false] n=bl n (fun _=>false):=by
 unfold madeCells bl
 apply Array.ext'
 simp [Nat.mod_one]
theorem xzkp:(Try.prog.info? 4).map (fun i=>(i.zero,i.size,i.bytes))=some (some (.bool false),1,1):=by kernel_rfl
theorem xzbd (n:Nat)(h:n<=1099511627776)(w:World):(Instr.makeSlice 28 (.int .i64 (n:Nat)) (.int .i64 (n:Nat))).run Try.prog w=.ok (.slice (some ⟨w.heap.size,0,none⟩) n n) (w.alloc (.cells (bl n (fun _=>false)) 4)):=by
 have:=run_make_row' (P:=Try.prog) 28 4 (.bool false) 1 Try.underlying28 xzkp rfl .i64 .i64 n (by omega) (by omega) w;rw [bl_made]at this;exact this
theorem bl_one (n:Nat)(f:Nat->Bool):∀ v∈(bl n f).toList,v.oneCell'=true:=by
 intro v hv;unfold bl at hv;simp only [List.mem_map]at hv;obtain⟨i,_,rfl⟩:=hv
 rfl
theorem xzao {w:World}{g n:Nat}{t:TypeId}{f:Nat->Bool}(h:BlkIs w g t (bl n f)){i:Nat}(hi:i<n):w.cell? ⟨g,i,none⟩=some (.bool (f i)):=by
 rw [h.cell i,xzuc f hi]
theorem xzif {w:World}{g g0 n:Nat}{f f':Nat->Bool}(hg:BlkIs w g 4 (bl n f'))(h0:BlkIs w g0 4 (bl n f)):
 (Builtin.copy_ #[28,28] 3 #[.slice (some ⟨g,0,none⟩) n n,.slice (some ⟨g0,0,none⟩) n n]).run Try.prog w=.ok (goInt n) (w.setRow g (bl n f)):=by
 have hlen:(bl n f).toList.length=n:=by rw [Array.length_toList,xzgz]
 have h:=run_copy_row (P:=Try.prog) w 28 28 3 4 g 0 n n ⟨g0,0,none⟩ n n (bl n f') 4 (bl n f).toList Try.underlying28 (by kernel_rfl) hg
  (by rw [hlen];simp) (fun j v hv=>by
   have:=h0.range j v hv;rw [Nat.zero_add]at this
   rw [Addr.add_lit,Nat.zero_add];exact this) (by rw [hlen,xzgz];omega) (bl_one n f)
 rw [hlen]at h;rw [h];have hd:(bl n f').toList.drop n=[]:=List.drop_of_length_le (by rw [Array.length_toList,xzgz];exact Nat.le_refl _)
 simp [hd]
theorem xzta {w:World}{g:Nat}{t:TypeId}{cs cs':Array Value}(h:BlkIs w g t cs):BlkIs (w.setRow g cs') g t cs':=setRow_heap w g cs cs' t (0,0) h
theorem row_far {w:World}{g k:Nat}{t:TypeId}{cs cs':Array Value}(h:BlkIs w k t cs)(hk:k≠g):BlkIs (w.setRow g cs') k t cs:=by
 unfold BlkIs at*;rw [setRow_other w g k cs' hk];exact h
theorem xzoc {P:Program}(t:TypeId)(ht:P.underlying t=some .string)(s:ByteArray)(i:Nat)(hi:i<s.size)(w:World):
 (Instr.index t (.string s) (.int .i64 (i:Nat))).run P w=.ok (.int .u8 ((s[i]'hi).toNat:Nat)) w:=by
 rw [run_index_string w t s .i64 _ ht,dif_pos ⟨by omega,by omega⟩]
 have e:((i:Int)).toNat=i:=by omega
 simp only [e]
def upTo (j:Nat)(f:Nat->Bool):Nat->Bool:=fun i=>decide (i<=j)&&f i
def stepB (m:Nat->Bool)(s:List UInt8)(f:Nat->Bool):Nat->Bool
 |0=>false
 |i+1=>f i&&(match s[i]? with|some c=>m c.toNat|none=>false)
theorem xzrm {m:Nat->Bool}{s:List UInt8}{f:Nat->Bool}(i:Nat):upTo 0 (stepB m s f) i=false:=by
 unfold upTo
 cases i with
 |zero=>simp [stepB]
 |succ i=>simp
theorem xzrn (j:Nat)(f:Nat->Bool):updS (upTo j f) (j+1) (f (j+1))=upTo (j+1) f:=by
 funext i
 unfold updS upTo
 by_cases h:i=j+1
 ·subst h;simp
 ·rw [if_neg h]
  congr 1
  apply decide_eq_decide.2;omega
theorem xzud {n j:Nat}(h:n<=j+1)(f:Nat->Bool):bl n (upTo j f)=bl n f:=xzbi fun i hi=>by
 unfold upTo;rw [decide_eq_true (by omega),Bool.true_and]
def orB (f g:Nat->Bool):Nat->Bool:=fun i=>f i||g i
def mostOf (s:List UInt8)(lo hi:Int):Nat:=if hi<0 then lo.toNat+s.length+1 else hi.toNat
def iterE (E:(Nat->Bool)->Nat->Bool):Nat->(Nat->Bool)->Nat->Bool
 |0,f=>f
 |n+1,f=>E (iterE E n f)
def repTo (E:(Nat->Bool)->Nat->Bool)(lo most:Nat)(f:Nat->Bool):Nat->Bool:=fun i=>(List.range most).any fun n=>decide (lo<=n)&&iterE E n f i
mutual
def Tree.ends (s:List UInt8):Tree->(Nat->Bool)->Nat->Bool
 | .node k m l lo hi=>fun f=>if k=0 then f else if k=1 then stepB m s f else if k=2 then endsCat s l f else if k=3 then endsAlt s l f else repTo (headEnds s l) lo.toNat (mostOf s lo hi+1) f
def endsCat (s:List UInt8):List Tree->(Nat->Bool)->Nat->Bool
 |[]=>fun f=>f
 |t::r=>fun f=>endsCat s r (t.ends s f)
def endsAlt (s:List UInt8):List Tree->(Nat->Bool)->Nat->Bool
 |[]=>fun _ _=>false
 |t::r=>fun f=>orB (t.ends s f) (endsAlt s r f)
def headEnds (s:List UInt8):List Tree->(Nat->Bool)->Nat->Bool
 |[]=>fun f=>f
 |t::_=>t.ends s
end
theorem xzdz (s:List UInt8):∀ (l r:List Tree) (f:Nat->Bool),endsCat s (l++r) f=endsCat s r (endsCat s l f)
 |[],r,f=>by simp [endsCat]
 |a::l,r,f=>by simp only [List.cons_append,endsCat,xzdz s l r]
theorem xzjq {s:List UInt8}{l:List Tree}{f:Nat->Bool}{i:Nat}(h:i<l.length):endsCat s (l.take (i+1)) f=(l[i]).ends s (endsCat s (l.take i) f):=by
 rw [<-List.take_append_getElem h,xzdz];simp [endsCat]
theorem xzea (s:List UInt8)(x:Nat):∀ (l r:List Tree) (f:Nat->Bool),endsAlt s (l++r) f x=(endsAlt s l f x||endsAlt s r f x)
 |[],r,f=>by simp [endsAlt]
 |a::l,r,f=>by simp only [List.cons_append,endsAlt,orB,xzea s x l r,Bool.or_assoc]
theorem xzjr {s:List UInt8}{l:List Tree}{f:Nat->Bool}{i:Nat}(h:i<l.length)(x:Nat):endsAlt s (l.take (i+1)) f x=(endsAlt s (l.take i) f x||(l[i]).ends s f x):=by
 rw [<-List.take_append_getElem h,xzea];simp [endsAlt,orB]
theorem xzig (E:(Nat->Bool)->Nat->Bool)(lo n:Nat)(f:Nat->Bool)(i:Nat):repTo E lo (n+1) f i=(repTo E lo n f i||(decide (lo<=n)&&iterE E n f i)):=by
 unfold repTo;rw [List.range_succ,List.any_append];simp
def EndsIs (n:Nat)(f':Nat->Bool)(w:World):Ending->World->Prop:=fun e w'=>∃ g,e=.returned (.slice (some ⟨g,0,none⟩) n n)/\w.heap.size<=g/\BlkIs w' g 4 (bl n f')/\Below w.heap.size w w'
theorem xzdb (k:Int)(m:Nat->Bool)(A:Option Addr)(q c n:Nat)(lo hi:Int)(w:World):
 Below w.heap.size w ((w.alloc (.cells (reL k m A q c lo hi).toArray 39)).alloc (.cells (bl n (fun _=>false)) 4))/\
 BlkIs ((w.alloc (.cells (reL k m A q c lo hi).toArray 39)).alloc (.cells (bl n (fun _=>false)) 4)) w.heap.size 39 (reL k m A q c lo hi).toArray/\
 BlkIs ((w.alloc (.cells (reL k m A q c lo hi).toArray 39)).alloc (.cells (bl n (fun _=>false)) 4)) (w.heap.size+1) 4 (bl n (fun _=>false)):=by
 have hout:=BlkIs.new (w.alloc (.cells (reL k m A q c lo hi).toArray 39)) 4 (bl n (fun _=>false));rw [World.size_alloc]at hout;exact⟨((Below.refl _ _).alloc (Nat.le_refl _) _).alloc (by simp) _,(BlkIs.new w 39 (reL k m A q c lo hi).toArray).alloc (.cells (bl n (fun _=>false)) 4),hout⟩
set_option maxHeartbeats 8000000 in
set_option maxRecDepth 20000 in
theorem ends_k0 (s:ByteArray)(hs30:s.size<=1073741824)(n:Nat)(hn:n=s.size+1)(m:Nat->Bool)(l:List Tree)(lo hi:Int)(A:Option Addr)(c:Nat)(w:World)(g0:Nat)(f:Nat->Bool)(hf0:BlkIs w g0 4 (bl n f)):
 Calls Try.prog 53 #[reV 0 m A l.length c lo hi,.string s,.slice (some ⟨g0,0,none⟩) n n] w (EndsIs n (f) w):=by
 have hw0:IntKind.i64.wrap ((s.size:Int)+1)=((n:Nat):Int):=by rw [IntKind.wrap_i64];omega
 have hmk:=fun w=>xzbd n (by omega) w
 have hg0:=hf0.lt;have HB0:=zd (xzdb 0 m A l.length c n lo hi w);have HF0:=zd hf0;have HN:=zd hn;clear hf0 hn;unfold EndsIs;unfold reV reL at*
 go_enter Try.func53,Try.ntmps53
 have hcp:=xzif HB0.out.2.2 ((HF0.out.alloc _).alloc _);go_wp2;go_ret;have hb:=HB0.out;exact⟨_,rfl,by omega,xzta hb.2.2,below_setRow hb.1 (by omega) _⟩
set_option maxHeartbeats 8000000 in
set_option maxRecDepth 20000 in
theorem ends_k1 (s:ByteArray)(hs30:s.size<=1073741824)(n:Nat)(hn:n=s.size+1)(m:Nat->Bool)(l:List Tree)(lo hi:Int)(A:Option Addr)(c:Nat)(w:World)(g0:Nat)(f:Nat->Bool)(hf0:BlkIs w g0 4 (bl n f)):
 Calls Try.prog 53 #[reV 1 m A l.length c lo hi,.string s,.slice (some ⟨g0,0,none⟩) n n] w (EndsIs n (stepB m s.data.toList f) w):=by
 have hw0:IntKind.i64.wrap ((s.size:Int)+1)=((n:Nat):Int):=by rw [IntKind.wrap_i64];omega
 have hmk:=fun w=>xzbd n (by omega) w
 have hg0:=hf0.lt;have HB0:=zd (xzdb 1 m A l.length c n lo hi w);have HF0:=zd hf0;have HN:=zd hn;clear hf0 hn;unfold EndsIs;unfold reV reL at*
 go_enter Try.func53,Try.ntmps53
 go_wp2;clear hmk hw0
 go_loopw [8] (fun i wr=>∃ j:Nat,i=.int .i64 j/\j<=s.size/\Hid (Below w.heap.size w wr/\BlkIs wr w.heap.size 39 (reL 1 m A l.length c lo hi).toArray/\BlkIs wr g0 4 (bl n f)/\BlkIs wr (w.heap.size+1) 4 (bl n (upTo j (stepB m s.data.toList f))))) (fun i _=>s.size - (intOf i).toNat)
 case atStart=>
  have hb:=HB0.out;exact⟨0,rfl,Nat.zero_le _,zd ⟨hb.1,hb.2.1,(HF0.out.alloc _).alloc _,by rw [xzbi (g:=fun _=>false) (fun i _=>xzrm i)];exact hb.2.2⟩⟩
 case round=>
  obtain⟨j,rfl,hj,HH⟩:=hrel
  by_cases hp:j<s.size
  ·have hdl:decide ((j:Int)<(s.size:Int))=true:=by simp;omega
   have hgl:s[j]=s.data.toList[j]'hp:=by rw [Lib.getD_at s j hp];rw [List.getD_eq_getElem?_getD,List.getElem?_eq_getElem hp];rfl
   have hix:=xzoc 9 Try.underlying9 s j hp (P:=Try.prog)
   have hx256:(s[j]'hp).toNat<256:=by have:=UInt8.toNat_lt (s[j]'hp);omega
   have hk1:IntKind.i64.wrap ((j:Int)+1)=((j+1:Nat):Int):=by rw [IntKind.wrap_i64];omega
   have hk2:IntKind.i64.wrap (((s[j]'hp).toNat:Nat):Int)=(((s[j]'hp).toNat:Nat):Int):=by rw [IntKind.wrap_i64];omega
   have hcall:=fun u=>xzni m (s[j]'hp).toNat hx256 u
   have hjn:j<n:=by have:=HN.out;omega
   have hjn1:j+1<n:=by have:=HN.out;omega
   have hst:stepB m s.data.toList f (j+1)=(f j&&m (s[j]'hp).toNat):=by
    show(f j&&_)=_
    rw [List.getElem?_eq_getElem hp,<-hgl]
   have hup:=xzrn j (stepB m s.data.toList f);rw [hst]at hup;have HUP:=zd hup;have HC:=zd hcall
   have hce:∀ u:World,BlkIs u w.heap.size 39 (reL 1 m A l.length c lo hi).toArray->BlkIs u g0 4 (bl n f)->
    u.cell? ⟨w.heap.size,1,none⟩=some (.int .u64 (wd m 0:Nat))/\u.cell? ⟨w.heap.size,2,none⟩=some (.int .u64 (wd m 1:Nat))/\u.cell? ⟨w.heap.size,3,none⟩=some (.int .u64 (wd m 2:Nat))/\u.cell? ⟨w.heap.size,4,none⟩=some (.int .u64 (wd m 3:Nat))/\
    u.cell? ⟨g0,j,none⟩=some (.bool (f j)):=fun u h1 h2=>⟨h1.cell 1,h1.cell 2,h1.cell 3,h1.cell 4,xzao h2 hjn⟩
   have HCE:=zd hce;clear hce;clear hcall hgl hst hup;unfold setV at HC;generalize hfj:f j=q at*;generalize hmj:m (s[j]'hp).toNat=r at*
   by_cases hq:q=false
   ·have HQ:=zd hq
    clear hq
    go_wp2_with fail
    refine xzat 16 16 159 (fun u=>Below w.heap.size w u/\BlkIs u w.heap.size 39 (reL 1 m A l.length c lo hi).toArray/\BlkIs u g0 4 (bl n f)/\BlkIs u (w.heap.size+1) 4 (bl n (upTo j (stepB m s.data.toList f))))
     (fun _=>#[]) (fun _=>0) (by kernel_rfl) (by kernel_rfl) rfl ⟨HH.out.1.drew,HH.out.2.1,HH.out.2.2.1,HH.out.2.2.2⟩ (fun u u' h hb=>⟨h.1.trans (hb.mono h.1.size),h.2.1.step hb,h.2.2.1.step hb,h.2.2.2.step hb⟩) (fun i o h1 h2=>absurd h1 (by omega)) ?_
    clear hdl;simp only [List.take_succ_cons,List.take_zero,List.drop_succ_cons,List.drop_zero]
    refine xzae fun K hK=>?_
    go_simp
    apply Exists.intro
    refine⟨fun v hv1 hv2 hv3 hv4=>?_,hK _ ?_⟩
    ·obtain⟨b1,b2,b3,b4,b5⟩:=HCE.out v hv2 hv3
     unfold freeAt
     first
      |(go_simp;exact xzah)
      |(go_simp;apply xzag;go_at_call 65;exact HC.out _)
    clear hK K
    refine xzae fun K hK=>?_
    go_simp
    apply Exists.intro
    refine⟨fun v hv1 hv2 hv3 hv4=>?_,hK _ ?_⟩
    ·obtain⟨b1,b2,b3,b4,b5⟩:=HCE.out v hv2 hv3
     unfold freeAt
     first
      |(go_simp;exact xzah)
      |(go_simp;apply xzag;go_at_call 65;exact HC.out _)
    clear hK K
    refine xzae fun K hK=>?_
    go_simp
    apply Exists.intro
    refine⟨fun v hv1 hv2 hv3 hv4=>?_,hK _ ?_⟩
    ·obtain⟨b1,b2,b3,b4,b5⟩:=HCE.out v hv2 hv3
     unfold freeAt
     first
      |(go_simp;exact xzah)
      |(go_simp;apply xzag;go_at_call 65;exact HC.out _)
    clear hK K
    refine xzae fun K hK=>?_
    go_simp
    apply Exists.intro
    refine⟨fun v hv1 hv2 hv3 hv4=>?_,hK _ ?_⟩
    ·obtain⟨b1,b2,b3,b4,b5⟩:=HCE.out v hv2 hv3
     unfold freeAt
     first
      |(go_simp;exact xzah)
      |(go_simp;apply xzag;go_at_call 65;exact HC.out _)
    clear hK K
    refine xzae fun K hK=>?_
    go_simp
    apply Exists.intro
    refine⟨fun v hv1 hv2 hv3 hv4=>?_,hK _ ?_⟩
    ·obtain⟨b1,b2,b3,b4,b5⟩:=HCE.out v hv2 hv3
     unfold freeAt
     first
      |(go_simp;exact xzah)
      |(go_simp;apply xzag;go_at_call 65;exact HC.out _)
    clear hK K
    refine xzae fun K hK=>?_
    go_simp
    apply Exists.intro
    refine⟨fun v hv1 hv2 hv3 hv4=>?_,hK _ ?_⟩
    ·obtain⟨b1,b2,b3,b4,b5⟩:=HCE.out v hv2 hv3
     unfold freeAt
     first
      |(go_simp;exact xzah)
      |(go_simp;apply xzag;go_at_call 65;exact HC.out _)
    clear hK K
    refine xzae fun K hK=>?_
    go_simp
    apply Exists.intro
    refine⟨fun v hv1 hv2 hv3 hv4=>?_,hK _ ?_⟩
    ·obtain⟨b1,b2,b3,b4,b5⟩:=HCE.out v hv2 hv3
     unfold freeAt
     first
      |(go_simp;exact xzah)
      |(go_simp;apply xzag;go_at_call 65;exact HC.out _)
    clear hK K
    refine xzae fun K hK=>?_
    go_simp
    apply Exists.intro
    refine⟨fun v hv1 hv2 hv3 hv4=>?_,hK _ ?_⟩
    ·obtain⟨b1,b2,b3,b4,b5⟩:=HCE.out v hv2 hv3
     unfold freeAt
     first
      |(go_simp;exact xzah)
      |(go_simp;apply xzag;go_at_call 65;exact HC.out _)
    clear hK K
    refine xzae fun K hK=>?_
    refine xzcp 7 92 true rfl rfl (by go_simp;exact HQ.out) ?_;have HK:=zd hK;clear hK;go_simp;have hK:=HK.out;clear HK;refine hK _ ?_;clear hK K
    refine xzae fun K hK=>?_
    refine xzcp 7 92 true rfl rfl (by go_simp;exact HQ.out) ?_;have HK:=zd hK;clear hK;go_simp;have hK:=HK.out;clear HK;refine hK _ ?_;clear hK K
    refine xzae fun K hK=>?_
    refine xzcp 7 92 true rfl rfl (by go_simp;exact HQ.out) ?_;have HK:=zd hK;clear hK;go_simp;have hK:=HK.out;clear HK;refine hK _ ?_;clear hK K
    refine xzae fun K hK=>?_
    refine xzcp 7 92 true rfl rfl (by go_simp;exact HQ.out) ?_;have HK:=zd hK;clear hK;go_simp;have hK:=HK.out;clear HK;refine hK _ ?_;clear hK K
    refine xzae fun K hK=>?_
    refine xzcp 7 92 true rfl rfl (by go_simp;exact HQ.out) ?_;have HK:=zd hK;clear hK;go_simp;have hK:=HK.out;clear HK;refine hK _ ?_;clear hK K
    refine xzae fun K hK=>?_
    refine xzcp 7 92 true rfl rfl (by go_simp;exact HQ.out) ?_;have HK:=zd hK;clear hK;go_simp;have hK:=HK.out;clear HK;refine hK _ ?_;clear hK K
    refine xzae fun K hK=>?_
    refine xzcp 7 92 true rfl rfl (by go_simp;exact HQ.out) ?_;have HK:=zd hK;clear hK;go_simp;have hK:=HK.out;clear HK;refine hK _ ?_;clear hK K;obtain rfl:=HQ.out
    refine xzae fun K hK=>?_
    go_simp
    apply Exists.intro
    refine⟨fun v hv1 hv2 hv3 hv4=>?_,hK _ ?_⟩
    ·obtain⟨b1,b2,b3,b4,b5⟩:=HCE.out v hv2 hv3
     unfold freeAt
     first
      |(go_simp;exact xzah)
      |(go_simp;apply xzag;go_at_call 65;exact HC.out _)
    clear hK K;refine xzay ?_;rintro g u ⟨hu1,hu2,hu3,hu4⟩ hb - -;clear hb;have HU:=zd (And.intro hu1 (And.intro hu2 (And.intro hu3 hu4)));have d1:=xzao hu4 hjn1;have d2:=hu4.frozen (j+1);clear hu1 hu2 hu3 hu4;rw [Nat.sub_self,List.take_zero];unfold putNews
    have hji:(j:Int)+1<(n:Int):=by omega
    go_wp2;refine⟨⟨j+1,by go_num,hp,zd ⟨HU.out.1.setCell (p:=⟨_,_,none⟩) (by simp) _,HU.out.2.1.far (by simp) _,HU.out.2.2.1.far (by simp;omega) _,?_⟩⟩,by simp [intOf];omega⟩;rw [<-HUP.out,<-xzgq];exact HU.out.2.2.2.put _ _
   ·obtain rfl:q=true:=by simpa using hq
    go_wp2_with fail
    refine xzat 16 16 159 (fun u=>Below w.heap.size w u/\BlkIs u w.heap.size 39 (reL 1 m A l.length c lo hi).toArray/\BlkIs u g0 4 (bl n f)/\BlkIs u (w.heap.size+1) 4 (bl n (upTo j (stepB m s.data.toList f))))
     (fun _=>#[]) (fun _=>0) (by kernel_rfl) (by kernel_rfl) rfl ⟨HH.out.1.drew,HH.out.2.1,HH.out.2.2.1,HH.out.2.2.2⟩ (fun u u' h hb=>⟨h.1.trans (hb.mono h.1.size),h.2.1.step hb,h.2.2.1.step hb,h.2.2.2.step hb⟩) (fun i o h1 h2=>absurd h1 (by omega)) ?_
    clear hdl;simp only [List.take_succ_cons,List.take_zero,List.drop_succ_cons,List.drop_zero]
    refine xzae fun K hK=>?_
    go_simp
    apply Exists.intro
    refine⟨fun v hv1 hv2 hv3 hv4=>?_,hK _ ?_⟩
    ·obtain⟨b1,b2,b3,b4,b5⟩:=HCE.out v hv2 hv3
     unfold freeAt
     first
      |(go_simp;exact xzah)
      |(go_simp;apply xzag;go_at_call 65;exact HC.out _)
    clear hK K
    refine xzae fun K hK=>?_
    go_simp
    apply Exists.intro
    refine⟨fun v hv1 hv2 hv3 hv4=>?_,hK _ ?_⟩
    ·obtain⟨b1,b2,b3,b4,b5⟩:=HCE.out v hv2 hv3
     unfold freeAt
     first
      |(go_simp;exact xzah)
      |(go_simp;apply xzag;go_at_call 65;exact HC.out _)
    clear hK K
    refine xzae fun K hK=>?_
    go_simp
    apply Exists.intro
    refine⟨fun v hv1 hv2 hv3 hv4=>?_,hK _ ?_⟩
    ·obtain⟨b1,b2,b3,b4,b5⟩:=HCE.out v hv2 hv3
     unfold freeAt
     first
      |(go_simp;exact xzah)
      |(go_simp;apply xzag;go_at_call 65;exact HC.out _)
    clear hK K
    refine xzae fun K hK=>?_
    go_simp
    apply Exists.intro
    refine⟨fun v hv1 hv2 hv3 hv4=>?_,hK _ ?_⟩
    ·obtain⟨b1,b2,b3,b4,b5⟩:=HCE.out v hv2 hv3
     unfold freeAt
     first
      |(go_simp;exact xzah)
      |(go_simp;apply xzag;go_at_call 65;exact HC.out _)
    clear hK K
    refine xzae fun K hK=>?_
    go_simp
    apply Exists.intro
    refine⟨fun v hv1 hv2 hv3 hv4=>?_,hK _ ?_⟩
    ·obtain⟨b1,b2,b3,b4,b5⟩:=HCE.out v hv2 hv3
     unfold freeAt
     first
      |(go_simp;exact xzah)
      |(go_simp;apply xzag;go_at_call 65;exact HC.out _)
    clear hK K
    refine xzae fun K hK=>?_
    go_simp
    apply Exists.intro
    refine⟨fun v hv1 hv2 hv3 hv4=>?_,hK _ ?_⟩
    ·obtain⟨b1,b2,b3,b4,b5⟩:=HCE.out v hv2 hv3
     unfold freeAt
     first
      |(go_simp;exact xzah)
      |(go_simp;apply xzag;go_at_call 65;exact HC.out _)
    clear hK K
    refine xzae fun K hK=>?_
    go_simp
    apply Exists.intro
    refine⟨fun v hv1 hv2 hv3 hv4=>?_,hK _ ?_⟩
    ·obtain⟨b1,b2,b3,b4,b5⟩:=HCE.out v hv2 hv3
     unfold freeAt
     first
      |(go_simp;exact xzah)
      |(go_simp;apply xzag;go_at_call 65;exact HC.out _)
    clear hK K
    refine xzae fun K hK=>?_
    go_simp
    apply Exists.intro
    refine⟨fun v hv1 hv2 hv3 hv4=>?_,hK _ ?_⟩
    ·obtain⟨b1,b2,b3,b4,b5⟩:=HCE.out v hv2 hv3
     unfold freeAt
     first
      |(go_simp;exact xzah)
      |(go_simp;apply xzag;go_at_call 65;exact HC.out _)
    clear hK K
    refine xzae fun K hK=>?_
    refine xzbo 7 92 true rfl rfl (by go_simp) ?_;go_simp
    apply Exists.intro
    refine⟨fun v hv1 hv2 hv3 hv4=>?_,hK _ ?_⟩
    ·obtain⟨b1,b2,b3,b4,b5⟩:=HCE.out v hv2 hv3
     unfold freeAt
     first
      |(go_simp;exact xzah)
      |(go_simp;apply xzag;go_at_call 65;exact HC.out _)
    clear hK K
    refine xzae fun K hK=>?_
    refine xzbo 7 92 true rfl rfl (by go_simp) ?_;go_simp
    apply Exists.intro
    refine⟨fun v hv1 hv2 hv3 hv4=>?_,hK _ ?_⟩
    ·obtain⟨b1,b2,b3,b4,b5⟩:=HCE.out v hv2 hv3
     unfold freeAt
     first
      |(go_simp;exact xzah)
      |(go_simp;apply xzag;go_at_call 65;exact HC.out _)
    clear hK K
    refine xzae fun K hK=>?_
    refine xzbo 7 92 true rfl rfl (by go_simp) ?_;go_simp
    apply Exists.intro
    refine⟨fun v hv1 hv2 hv3 hv4=>?_,hK _ ?_⟩
    ·obtain⟨b1,b2,b3,b4,b5⟩:=HCE.out v hv2 hv3
     unfold freeAt
     first
      |(go_simp;exact xzah)
      |(go_simp;apply xzag;go_at_call 65;exact HC.out _)
    clear hK K
    refine xzae fun K hK=>?_
    refine xzbo 7 92 true rfl rfl (by go_simp) ?_;go_simp
    apply Exists.intro
    refine⟨fun v hv1 hv2 hv3 hv4=>?_,hK _ ?_⟩
    ·obtain⟨b1,b2,b3,b4,b5⟩:=HCE.out v hv2 hv3
     unfold freeAt
     first
      |(go_simp;exact xzah)
      |(go_simp;apply xzag;go_at_call 65;exact HC.out _)
    clear hK K
    refine xzae fun K hK=>?_
    refine xzbo 7 92 true rfl rfl (by go_simp) ?_;go_simp
    apply Exists.intro
    refine⟨fun v hv1 hv2 hv3 hv4=>?_,hK _ ?_⟩
    ·obtain⟨b1,b2,b3,b4,b5⟩:=HCE.out v hv2 hv3
     unfold freeAt
     first
      |(go_simp;exact xzah)
      |(go_simp;apply xzag;go_at_call 65;exact HC.out _)
    clear hK K
    refine xzae fun K hK=>?_
    refine xzbo 7 92 true rfl rfl (by go_simp) ?_;go_simp
    apply Exists.intro
    refine⟨fun v hv1 hv2 hv3 hv4=>?_,hK _ ?_⟩
    ·obtain⟨b1,b2,b3,b4,b5⟩:=HCE.out v hv2 hv3
     unfold freeAt
     first
      |(go_simp;exact xzah)
      |(go_simp;apply xzag;go_at_call 65;exact HC.out _)
    clear hK K
    refine xzae fun K hK=>?_
    refine xzbo 7 92 true rfl rfl (by go_simp) ?_;go_simp
    apply Exists.intro
    refine⟨fun v hv1 hv2 hv3 hv4=>?_,hK _ ?_⟩
    ·obtain⟨b1,b2,b3,b4,b5⟩:=HCE.out v hv2 hv3
     unfold freeAt
     first
      |(go_simp;exact xzah)
      |(go_simp;apply xzag;go_at_call 65;exact HC.out _)
    clear hK K
    refine xzae fun K hK=>?_
    go_simp
    apply Exists.intro
    refine⟨fun v hv1 hv2 hv3 hv4=>?_,hK _ ?_⟩
    ·obtain⟨b1,b2,b3,b4,b5⟩:=HCE.out v hv2 hv3
     unfold freeAt
     first
      |(go_simp;exact xzah)
      |(go_simp;apply xzag;go_at_call 65;exact HC.out _)
    clear hK K;refine xzay ?_;rintro g u ⟨hu1,hu2,hu3,hu4⟩ hb - -;clear hb;have HU:=zd (And.intro hu1 (And.intro hu2 (And.intro hu3 hu4)));have d1:=xzao hu4 hjn1;have d2:=hu4.frozen (j+1);clear hu1 hu2 hu3 hu4;rw [Nat.sub_self,List.take_zero];unfold putNews
    have hji:(j:Int)+1<(n:Int):=by omega
    go_wp2;refine⟨⟨j+1,by go_num,hp,zd ⟨HU.out.1.setCell (p:=⟨_,_,none⟩) (by simp) _,HU.out.2.1.far (by simp) _,HU.out.2.2.1.far (by simp;omega) _,?_⟩⟩,by simp [intOf];omega⟩;rw [<-HUP.out,<-xzgq];exact HU.out.2.2.2.put _ _
  ·have hdl:decide ((j:Int)<(s.size:Int))=false:=by simp;omega
   obtain rfl:j=s.size:=by omega
   go_wp2;go_ret;have hb:=HH.out;refine⟨_,rfl,by omega,?_,hb.1⟩;have hb4:=hb.2.2.2;rw [xzud (Nat.le_of_eq HN.out)]at hb4;exact hb4
end
end Go.Proofs.Ythoaaginadjaoaa
