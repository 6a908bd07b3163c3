/-
 A WRITER'S BUILDER, the first field of rprint's writer: contracts of strings.Builder's methods there. No condition but those that each names.
-/
import Derived.Laws.Pointers
import Derived.LoopTactic
import Derived.RangeFuncWrites
import Derived.Test.YtgjfhbpmahgfcaaDoorQG04
import Derived.Test.YtgjfhbpmahgfcaaDoorQG02
namespace Go.Proofs.YtgjfhbpmahgfcaaDoor
section
open Go.Shelf Go.RowKit
def WrAt (B b:Nat)(p:Value)(bs:List Value)(many:Bool)(w:World):Prop:=
 B<=b/\∃ v,BlkIs w b 66 #[p,v,.bool many]/\w.ownsRow B 5 1 v bs.length bs/\v.ownBlock≠some b
theorem WrAt.step {B b:Nat}{p:Value}{bs:List Value}{many:Bool}{w w':World}(h:WrAt B b p bs many w)(hb:Below w.heap.size w w'):WrAt B b p bs many w':=by
 obtain⟨hB,v,h1,h2,h3⟩:=h;refine⟨hB,v,h1.step hb,?_,h3⟩;refine⟨h2.1,h2.2.imp id ?_⟩;rintro⟨g,cap,cur,rfl,a1,a2,a3⟩;exact⟨g,cap,cur,rfl,a1,(hb.block g (Array.getElem?_eq_some_iff.1 a2).1).trans a2,a3⟩
def IsWr (B b:Nat)(bs:List Value)(many:Bool)(w:World):Prop:=WrAt B b (.pointer none) bs many w\/WrAt B b (.pointer (some ⟨b,0,none⟩)) bs many w
theorem IsWr.step {B b:Nat}{bs:List Value}{many:Bool}{w w':World}(h:IsWr B b bs many w)(hb:Below w.heap.size w w'):IsWr B b bs many w':=h.imp (·.step hb) (·.step hb)
theorem xzka:(Tryd.prog.info? 51).map (·.size)=some 2:=by kernel_rfl
theorem wr_lies:liesAt Tryd.prog Tryd.prog.depth 66 (3 / Tryd.prog.cellsOf 66) 0 51 1=true:=by kernel_rfl
set_option maxHeartbeats 1000000 in
set_option maxRecDepth 100000 in
theorem xzkb (b:Nat)(w:World)(h0:w.cell? ⟨b,0,none⟩=some (.pointer (some ⟨b,0,none⟩))):
 Calls Tryd.prog 19 #[.pointer (some ⟨b,0,none⟩)] w fun e w'=>e=.returned (.tuple #[])/\w'=w:=Go.Proofs.Any.Builder_copyCheck_used laysB240 ExtraB.toX72 b w h0
set_option maxHeartbeats 1000000 in
set_option maxRecDepth 100000 in
theorem xzlg (b:Nat)(w:World)(h0:w.cell? ⟨b,0,none⟩=some (.pointer none))(hsh:w.shape? b=some (66,3))(hfz:w.frozen? ⟨b,0,none⟩=false):
 Calls Tryd.prog 19 #[.pointer (some ⟨b,0,none⟩)] w fun e w'=>e=.returned (.tuple #[])/\w'=w.setCell ⟨b,0,none⟩ (.pointer (some ⟨b,0,none⟩)):=by
 obtain⟨j,hj,hjs⟩:=Option.map_eq_some_iff.1 xzka
 go_enter Tryd.func19,Tryd.ntmps19
 go_wp2;rw [Lib.run_to_unsafe w ⟨b,0,none⟩ Tryd.underlying48 Tryd.underlying87 hj (by rw [hjs];decide) hsh (by show 0<3;decide)];simp only [Result.andThen];rw [Oper.upon_value];go_wp2;rw [run_callFunc_extern Tryd.func35 (by kernel_rfl) (by kernel_rfl) (by kernel_rfl) (e:=Extern.AbiNoEscape.same) (by kernel_rfl)];rw [Lib.run_noEscape];simp only [Result.andThen];rw [Oper.upon_value];go_wp2;rw [Lib.run_from_unsafe w ⟨b,0,none⟩ Tryd.underlying87 Tryd.underlying48 hj hsh wr_lies];simp only [Result.andThen];rw [Oper.upon_value];go_wp2
 go_end0
 exact⟨rfl,rfl⟩
theorem xzkc {u:World}{k g:Nat}{t t':TypeId}{cs cs':Array Value}(h:BlkIs u k t cs)(h':BlkIs u g t' cs')(ht:t≠t'):k≠g:=fun e=>by
 subst e;unfold BlkIs at h h';rw [h]at h'
 simp at h'
 exact ht h'.2
def KeepT (w w':World):Prop:=w.heap.size<=w'.heap.size/\∀ (k:Nat) (t:TypeId) (cs:Array Value),BlkIs w k t cs->t≠5->t≠66->BlkIs w' k t cs
theorem KeepT.refl (w:World):KeepT w w:=⟨Nat.le_refl _,fun _ _ _ h _ _=>h⟩
theorem KeepT.trans {u v w:World}(h:KeepT u v)(h':KeepT v w):KeepT u w:=⟨Nat.le_trans h.1 h'.1,fun k t cs hk h1 h2=>h'.2 k t cs (h.2 k t cs hk h1 h2) h1 h2⟩
theorem KeepT.of {w w':World}(h:Below w.heap.size w w'):KeepT w w':=⟨h.size,fun _ _ _ hk _ _=>hk.step h⟩
theorem KeepT.put {w:World}{b i:Nat}{cs:Array Value}(hb:BlkIs w b 66 cs)(x:Value):KeepT w (w.setCell ⟨b,i,none⟩ x):=⟨by rw [World.size_setCell];exact Nat.le_refl _,fun _ _ _ hk _ h2=>hk.far (p:=⟨b,i,none⟩) (xzkc hk hb h2) x⟩
theorem KeepT.grown {w w':World}{B n:Nat}{v:Value}{xs:List Value}(ho:w.ownsRow B 5 1 v n xs)(hg:w.grownBy w' v.ownBlock):KeepT w w':=⟨hg.size,fun k t cs hk h1 _=>by
 refine(hg.block k hk.lt fun e=>?_).trans hk
 rcases ho.2 with⟨rfl,_⟩|⟨g,cap,cur,rfl,_,h2,_⟩
 ·simp [Value.ownBlock]at e
 ·simp [Value.ownBlock]at e
  exact xzkc hk (show BlkIs w g 5 cur from h2) h1 e⟩
theorem WrAt.shape {B b:Nat}{p:Value}{bs:List Value}{many:Bool}{w:World}(h:WrAt B b p bs many w):w.shape? b=some (66,3):=by
 obtain⟨_,v,h1,_⟩:=h;unfold BlkIs at h1
 simp [World.shape?,h1]
theorem WrAt.put {B b:Nat}{bs':List Value}{many:Bool}{p v v':Value}{w:World}(hB:B<=b)(hb:BlkIs w b 66 #[p,v,.bool many])(hown:w.ownsRow B 5 1 v' bs'.length bs'):WrAt B b p bs' many (w.setCell ⟨b,1,none⟩ v'):=by
 have hne:v'.ownBlock≠some b:=by
  rcases hown.2 with⟨rfl,_⟩|⟨g,cap,cur,rfl,h1,h2,_⟩
  ·simp [Value.ownBlock]
  ·intro e
   simp [Value.ownBlock]at e
   subst e;unfold BlkIs at hb;rw [h2]at hb
   simp at hb
 refine⟨hB,v',by simpa using hb.put 1 v',⟨hown.1,hown.2.imp id ?_⟩,hne⟩;rintro⟨g,cap,cur,rfl,a1,a2,a3⟩
 exact⟨g,cap,cur,rfl,a1,(Below.heap_setCell w ⟨b,1,none⟩ _ g (by
  intro e;simp at e;subst e;exact hne rfl)).trans a2,a3⟩
theorem xzkd (B b:Nat)(bs:List Value)(many:Bool)(w:World)(h:IsWr B b bs many w):
 Calls Tryd.prog 19 #[.pointer (some ⟨b,0,none⟩)] w fun e w'=>e=.returned (.tuple #[])/\(WrAt B b (.pointer (some ⟨b,0,none⟩)) bs many w'/\Below B w w'/\KeepT w w'):=by
 rcases h with h|h
 ·have hs:=h.shape
  obtain⟨hB,v,h1,h2,h3⟩:=h;refine(xzlg b w (by simpa using h1.cell 0) hs (h1.frozen 0)).mono ?_;rintro e w' ⟨rfl,rfl⟩;refine⟨rfl,⟨hB,v,by simpa using h1.put 0 (.pointer (some ⟨b,0,none⟩)),⟨h2.1,h2.2.imp id ?_⟩,h3⟩,(Below.refl B w).setCell (p:=⟨b,0,none⟩) hB _,KeepT.put h1 _⟩;rintro⟨g,cap,cur,rfl,a1,a2,a3⟩
  exact⟨g,cap,cur,rfl,a1,(Below.heap_setCell w ⟨b,0,none⟩ _ g (by
   intro e;simp at e;subst e;exact h3 rfl)).trans a2,a3⟩
 ·obtain⟨hB,v,h1,h2,h3⟩:=id h
  refine(xzkb b w (by simpa using h1.cell 0)).mono ?_;rintro e w' ⟨rfl,rfl⟩;exact⟨rfl,h,Below.refl B _,KeepT.refl _⟩
theorem IsWr.at {B b:Nat}{bs:List Value}{many:Bool}{w:World}(h:IsWr B b bs many w):∃ p,WrAt B b p bs many w:=by
 rcases h with h|h
 ·exact⟨_,h⟩
 ·exact⟨_,h⟩
theorem xzag {W:World}{B:Nat}{t:TypeId}{z n:Nat}{v:Value}{xs:List Value}(h:W.ownsRow B t z v n xs):∃ ao cap,v=.slice ao n cap:=by
 rcases h.2 with⟨hv,h0⟩|⟨g,cap,cur,hv,_⟩
 ·exact⟨none,0,by rw [hv,h0]⟩
 ·exact⟨_,_,hv⟩
set_option maxHeartbeats 1000000 in
set_option maxRecDepth 100000 in
theorem wr_len (B b:Nat)(bs:List Value)(many:Bool)(w:World)(h:IsWr B b bs many w):
 Calls Tryd.prog 18 #[.pointer (some ⟨b,0,none⟩)] w fun e w'=>e=.returned (.int .i64 bs.length)/\w'=w:=by
 obtain⟨p,hB,v,hbk,hown,hne⟩:=h.at;obtain⟨ao,cap,rfl⟩:=xzag hown
 have c1:w.cell? ⟨b,1,none⟩=some (.slice ao bs.length cap):=by simpa using hbk.cell 1
 clear hbk hown hne h
 go_enter Tryd.func18,Tryd.ntmps18
 go_wp2;go_ret;exact⟨rfl,rfl⟩
theorem xzby:(Tryd.prog.info? 5).map (fun i=>(i.zero,i.size,i.bytes))=some (some (.int .u8 0),1,1):=by kernel_rfl
set_option maxHeartbeats 2000000 in
set_option maxRecDepth 100000 in
theorem wr_byte (B b:Nat)(bs:List Value)(many:Bool)(c:Int)(w:World)(h:IsWr B b bs many w)(hlen:bs.length+1<=140737488355328)(hBw:B<=w.heap.size):
 Calls Tryd.prog 10 #[.pointer (some ⟨b,0,none⟩),.int .u8 c] w fun e w'=>e=.returned .nilIface/\(WrAt B b (.pointer (some ⟨b,0,none⟩)) (bs++[.int .u8 c]) many w'/\Below B w w'/\KeepT w w'):=by
 obtain⟨i0,hi,hz0,hz1,hz2⟩:=info_parts xzby
 go_enter Tryd.func10,Tryd.ntmps10
 go_wp2_with(go_at_call 19;refine(xzkd B b bs many _ h).mono ?_)
 rintro e w1 ⟨rfl,h1,hb1,hk1⟩;obtain⟨hB,v,hbk,hown,hne⟩:=h1
 have c0:w1.cell? ⟨b,0,none⟩=some (.pointer (some ⟨b,0,none⟩)):=by simpa using hbk.cell 0
 have c1:w1.cell? ⟨b,1,none⟩=some v:=by simpa using hbk.cell 1
 go_wp2_with(at_builtin;refine wpList_append_own _ rfl _ _ 49 rfl B 5 i0 (.int .u8 0) 1 1 Tryd.underlying49 hi hz0 hz1 hz2 rfl (by decide) _ _ _ rfl (hown.alloc _) ⟨w1.heap.size,0,none⟩ 1 1 [.int .u8 c] rfl rfl ?c1 ?c2 ?c3 ?c4 ?c5 ?_)
 case c1=>
  intro j u hj
  match j,hj with
  |0,hj=>simp at hj;subst hj;simp [Addr.add]
 case c2=>intro u hu;simp at hu;subst hu;rfl
 case c3=>unfold maxLen;omega
 case c4=>omega
 case c5=>have:=hb1.size;simp;omega
 intro v' w2 hown' hgrow _
 have hb2:BlkIs w2 b 66 #[.pointer (some ⟨b,0,none⟩),v,.bool many]:=by
  have hlt:=hbk.lt;exact(hgrow.block b (by simp;omega) (fun e=>hne e.symm)).trans (hbk.alloc _)
 have d0:w2.cell? ⟨b,0,none⟩=some (.pointer (some ⟨b,0,none⟩)):=by simpa using hb2.cell 0
 have d1:w2.cell? ⟨b,1,none⟩=some v:=by simpa using hb2.cell 1
 have f1:w2.frozen? ⟨b,1,none⟩=false:=hb2.frozen 1;obtain⟨g,cap,rfl⟩:=xzag hown';have hbb:Below B w w2:=(hb1.alloc (by have:=hb1.size;omega) _).grown hgrow (by have:=hb1.size;simp;omega) (fun k hk=>(hown.lt k hk).1);have hkk:KeepT w w2:=(hk1.trans (KeepT.of ((Below.refl _ _).alloc (Nat.le_refl _) (.cells #[.int .u8 c] 5)))).trans (KeepT.grown (hown.alloc _) hgrow);have HH:=zd (And.intro hb2 (And.intro hown' (And.intro hbb hkk)));clear hb2 hown' hbb hkk hk1 hgrow hbk hown hne hb1 c0 c1;go_wp2;go_ret;exact⟨rfl,WrAt.put (bs':=bs++[.int .u8 c]) hB HH.out.1 (by simpa using HH.out.2.1),HH.out.2.2.1.setCell (p:=⟨b,1,none⟩) hB _,HH.out.2.2.2.trans (KeepT.put HH.out.1 _)⟩
set_option maxHeartbeats 2000000 in
set_option maxRecDepth 100000 in
theorem wr_str (B b:Nat)(bs:List Value)(many:Bool)(s:ByteArray)(w:World)(h:IsWr B b bs many w)(hlen:bs.length+s.size<=140737488355328)(hBw:B<=w.heap.size):
 Calls Tryd.prog 11 #[.pointer (some ⟨b,0,none⟩),.string s] w fun e w'=>e=.returned (.tuple #[.int .i64 s.size,.nilIface])/\(WrAt B b (.pointer (some ⟨b,0,none⟩)) (bs++Lib.strCells s) many w'/\Below B w w'/\KeepT w w'):=by
 obtain⟨i0,hi,hz0,hz1,hz2⟩:=info_parts xzby
 go_enter Tryd.func11,Tryd.ntmps11
 go_wp2_with(go_at_call 19;refine(xzkd B b bs many _ h).mono ?_)
 rintro e w1 ⟨rfl,h1,hb1,hk1⟩;obtain⟨hB,v,hbk,hown,hne⟩:=h1
 have c0:w1.cell? ⟨b,0,none⟩=some (.pointer (some ⟨b,0,none⟩)):=by simpa using hbk.cell 0
 have c1:w1.cell? ⟨b,1,none⟩=some v:=by simpa using hbk.cell 1
 go_wp2_with(at_builtin;refine Lib.wpList_append_own_string _ rfl _ _ 49 9 rfl B 5 i0 Tryd.underlying49 Tryd.underlying9 hi hz0 hz1 hz2 _ _ _ rfl hown s rfl ?c3 ?c4 ?c5 ?_)
 case c3=>unfold maxLen;omega
 case c4=>omega
 case c5=>have:=hb1.size;omega
 intro v' w2 hown' hgrow _;have hb2:BlkIs w2 b 66 #[.pointer (some ⟨b,0,none⟩),v,.bool many]:=(hgrow.block b hbk.lt (fun e=>hne e.symm)).trans hbk
 have d0:w2.cell? ⟨b,0,none⟩=some (.pointer (some ⟨b,0,none⟩)):=by simpa using hb2.cell 0
 have d1:w2.cell? ⟨b,1,none⟩=some v:=by simpa using hb2.cell 1
 have f1:w2.frozen? ⟨b,1,none⟩=false:=hb2.frozen 1;obtain⟨g,cap,rfl⟩:=xzag hown';have hbb:Below B w w2:=hb1.grown hgrow (by have:=hb1.size;omega) (fun k hk=>(hown.lt k hk).1);have hkk:KeepT w w2:=hk1.trans (KeepT.grown hown hgrow);have HH:=zd (And.intro hb2 (And.intro hown' (And.intro hbb hkk)));clear hb2 hown' hbb hkk hk1 hgrow hbk hown hne hb1 c0 c1;go_wp2
 go_ret2
 exact⟨rfl,WrAt.put (bs':=bs++Lib.strCells s) hB HH.out.1 (by simpa [Lib.strCells_length]using HH.out.2.1),HH.out.2.2.1.setCell (p:=⟨b,1,none⟩) hB _,HH.out.2.2.2.trans (KeepT.put HH.out.1 _)⟩
theorem xzcn:Tryd.prog.cellsOf 5=1:=by kernel_rfl
set_option maxHeartbeats 1000000 in
set_option maxRecDepth 100000 in
theorem xzis (B b:Nat)(l:List UInt8)(many:Bool)(w:World)(h:IsWr B b (Lib.byteCells l) many w)(h0:l≠[]):
 Calls Tryd.prog 13 #[.pointer (some ⟨b,0,none⟩)] w fun e w'=>e=.returned (.string ⟨l.toArray⟩)/\Below B w w':=by
 obtain⟨p,hB,v,hbk,hown,hne⟩:=h.at
 have mixed:Tryd.prog.follows .mixedOrders=true:=by kernel_rfl
 have hl0:l.length≠0:=by simpa using h0
 rw [Lib.byteCells_length]at hown
 obtain⟨g,cap,cur,rfl,hbg,hg,hnc,hcm,hcs,htake⟩:∃ g cap cur,v=.slice (some ⟨g,0,none⟩) l.length cap/\B<=g/\w.heap[g]? =some (.cells cur 5 (0,0))/\l.length<=cap/\cap<=maxLen/\cur.size=cap*1/\cur.toList.take (l.length*1)=Lib.byteCells l:=by
  rcases hown.2 with⟨_,hz⟩|⟨g,cap,cur,hv,r⟩
  ·exact absurd hz hl0
  ·exact⟨g,cap,cur,hv,r⟩
 have c1:w.drew.cell? ⟨b,1,none⟩=some (.slice (some ⟨g,0,none⟩) l.length cap):=by
  simpa using hbk.drew.cell 1
 have hSD:(Builtin.unsafeSliceData_ #[49] 70 #[.slice (some ⟨g,0,none⟩) l.length cap]).run Tryd.prog w.drew=.ok (.pointer (some ⟨g,0,none⟩)) w.drew:=
  Lib.run_unsafeSliceData_row _ _ _ _ _ _ (by omega)
 have hUS:(Builtin.unsafeString_ #[70,3] 9 #[.pointer (some ⟨g,0,none⟩),.int .i64 l.length]).run Tryd.prog w.drew=.ok (.string ⟨l.toArray⟩) (w.drew.freeze ⟨g,0,none⟩ l.length):=by
  refine Lib.run_unsafeString_row w.drew 70 3 9 5 Tryd.underlying70 xzcn g cur.size (by have hg':w.drew.heap[g]? =some (.cells cur 5 (0,0)):=hg;simp [World.shape?,hg']) l h0 (by omega) (by unfold maxLen at hcm;omega) ?_;intro j x hx;have:=hown.cells (g:=g) rfl j (.int .u8 x.toNat) (by simp [Lib.byteCells,hx]);exact this
 go_enter Tryd.func13,Tryd.ntmps13
 go_wp2
 go_region_o
 all_goals (go_wp2;go_ret;exact⟨rfl,Lib.below_freeze (Below.drew (Below.refl B w)) (p:=⟨g,0,none⟩) hbg _⟩)
end
section
open Go.RowKit
mutual
def Tree.nodes:Tree->Nat
 | .node _ _ l _ _=>nodesL l+1
def nodesL:List Tree->Nat
 |[]=>0
 |t::r=>t.nodes+nodesL r
end
mutual
def Tree.deepW:Tree->Int
 | .node _ _ l _ _=>wrap64 ((deepsW l).foldl (fun d x=>if d<x then x else d) 0+1)
def deepsW:List Tree->List Int
 |[]=>[]
 |t::r=>t.deepW::deepsW r
end
def deepM (l:List Tree):Int:=(deepsW l).foldl (fun d x=>if d<x then x else d) 0
def okNode (k:Int)(m:Nat->Bool)(n:Nat)(lo hi:Int):Bool:=
 if((k != 1&& !setEq m (fun _=>false))||(k != 4&&(lo != 0||hi != 0)))=true then false
 else if k=0\/k=1 then decide (n=0)
 else if k=2\/k=3 then decide (2<=n)
 else if k=4 then decide (n=1/\0<=lo/\lo<=64/\(hi= -1\/lo<=hi/\hi<=64))
 else false
mutual
def Tree.ok:Tree->Bool
 | .node k m l lo hi=>allOk l&&okNode k m l.length lo hi
def allOk:List Tree->Bool
 |[]=>true
 |t::r=>t.ok&&allOk r
end
theorem allOk_iff:∀ {l:List Tree},allOk l=true↔ ∀ t∈l,t.ok=true
 |[]=>by simp [allOk]
 |a::l=>by simp only [allOk,Bool.and_eq_true,List.mem_cons,forall_eq_or_imp,allOk_iff (l:=l)]
theorem xzbz:setV (fun _=>false)=.agg #[.int .u64 0,.int .u64 0,.int .u64 0,.int .u64 0]:=by
 have:∀ i,i<4->wd (fun _=>false) i=0:=by decide+kernel
 unfold setV;rw [this 0 (by omega),this 1 (by omega),this 2 (by omega),this 3 (by omega)];rfl
end
section
open Go.RowKit
variable {F : Fence} {n : Nat} {P : Program}
def roundEnds {σ:Type}(B:Nat)(Kp:World->World->Prop)(Iy:σ->World->Prop)(Ix:Code->World->Prop)(s:σ)(W:World):Exit->Act->World->Prop
 | .normal,_,W'=>KeepsFrom B W W'/\Kp W W'/\Iy s W'
 | .ret,_,W'=>KeepsFrom B W W'/\Ix .ret W'
 | .exit id,_,W'=>KeepsFrom B W W'/\Ix (.exit id) W'
 | .goto t,_,W'=>KeepsFrom B W W'/\Ix (.goto t) W'
 | .panic _,_,_=>False
 | .outgrown,_,_=>False
def Bides (B:Nat)(I:World->Prop):Prop:=∀ (W:World) (l:Nat) (o o':Obj),I W->B<=l->W.heap[l]? =some o->o.isCells=false->I (W.putObj l o')
theorem xzew {σ:Type}{g:Operand}{ps:Array Tmp}{assign body:Code}{Q:Exit->Act->World->Prop}{a:Act}{w:World}
 (hro:F.round=none)(h1:1<=n){gf:Nat}{bd lb:Array Value}(hg:a.eval g=.func (.func gf) bd lb)(hFg:F.fn gf)(eg:∀ args w,(callFunc gf args).run P w=.ok (.enter gf args) w)
 (encs:σ->Array Value)(hps:∀ s,(encs s).size=ps.size)(Kp:World->World->Prop)
 (hKt:∀ {A B C:World},Kp A B->Kp B C->Kp A C)(hKb:∀ (W:World) (l:Nat) (o o':Obj),w.heap.size<=l->W.heap[l]? =some o->o.isCells=false->Kp W (W.putObj l o'))
 (I Iy:σ->World->Prop)(Ix:Code->World->Prop)(Fin:World->Prop)
 (hI:∀ s,Bides w.heap.size (I s))(hIy:∀ s,Bides w.heap.size (Iy s))(hIx:∀ c,Bides w.heap.size (Ix c))(hFin:Bides w.heap.size Fin)
 (hcall:∀ (l:Nat) (G X:World->Prop),(∀ W W',G W->KeepsOthers W W'->G W')->
  (∀ s W,I s W->G W->YieldAt F (n - 1 - 1) P l (encs s) W fun e W'=>(e=.returned (.bool true)/\Iy s W'/\Kp W W'/\G W')\/(e=.returned (.bool false)/\X W'))->
  ∀ W,Below w.heap.size w W->KeepsOthers w W->G W->CallsIn F (n - 1) P gf (bd++ #[.func (.yield l) #[] #[]]++lb) W fun e W'=>(∃ v,e=.returned v)/\((Fin W'/\G W')\/X W'))
 (a₁:σ->Act)
 (hassign:∀ (l:Nat) (s:σ) (W:World) (K:Act->World->Prop),K (a₁ s) W->
  assign.wpIn (F.inRound l) (n - 1 - 1) P (Exit.then K (fun _ _ _=>False)) {tmps:=(ps.zip (encs s)).foldl (fun t (p,v)=>t.setIfInBounds p v) a.tmps,defers:=[]} W)
 (hbody:∀ (l:Nat) (s:σ) (W:World),w.heap.size<=W.heap.size->I s W->body.wpIn (F.inRound l) (n - 1 - 1) P (roundEnds w.heap.size Kp Iy Ix s W) (a₁ s) W)
 (hdone:∀ (D:Nat) (W:World),w.heap.size<=D->Fin W->W.heap[D]? =some (.deferred (some []))->Q .normal {a with defers:={target:=.collected D,args:=#[]}::a.defers} W)
 (hstop:∀ (D:Nat) (c:Code) (W:World),w.heap.size<=D->Ix c W->W.heap[D]? =some (.deferred (some []))->c.wpIn F n P Q {a with defers:={target:=.collected D,args:=#[]}::a.defers} W):
 (Code.rangeFunc g ps assign body).wpIn F n P Q a w:=by
 refine wpIn_rangeFunc fun fn hfn=>?_
 rw [hro]
 let rd:LoopState->Option Code->Obj:=fun st pe=>.loop {state:=st,pending:=pe,fn,tmps:=a.tmps,params:=ps,assign,body,defers:=w.heap.size}
 let G:World->Prop:=fun W=>W.heap[w.heap.size+1]? =some (rd .ready none)/\W.heap[w.heap.size]? =some (.deferred (some []))
 let X:World->Prop:=fun W=>∃ c,Ix c W/\W.heap[w.heap.size+1]? =some (rd .done (some c))/\W.heap[w.heap.size]? =some (.deferred (some []))
 let W1:=(w.alloc (.deferred (some []))).alloc (rd .ready none)
 have hG1:G W1:=by
  refine⟨?_,(Below.heap_alloc _ _ _ (by simp)).trans (World.alloc_heap_new w _)⟩;have:=World.alloc_heap_new (w.alloc (.deferred (some []))) (rd .ready none)
  rwa [World.size_alloc]at this
 have hB1:Below w.heap.size w W1:=((Below.refl _ w).alloc (Nat.le_refl _) _).alloc (by simp) _;have hK1:KeepsOthers w W1:=(KeepsOthers.alloc w _).trans (KeepsOthers.alloc _ _)
 refine⟨w.heap.size+1,[{target:=.collected w.heap.size,args:=#[]}],W1,{target:=.fn (.func gf) lb,args:=bd++ #[.func (.yield (w.heap.size+1)) #[] #[]]},W1,gf,
  bd++ #[.func (.yield (w.heap.size+1)) #[] #[]]++lb,W1,run_enterLoop_outer _ _ _ _ _,?_,?_,?_,fun _=>h1,?_⟩
 ·simp only [resolve,hg]
  simp [go_sem]
 ·intro f' hf'
  simp [Target.leads]at hf'
  subst hf';exact hFg
 ·simp [invoke,go_sem,eg]
 refine(hcall (w.heap.size+1) G X (fun W W' h hk=>⟨hk.same _ _ h.1 rfl,hk.same _ _ h.2 rfl⟩) ?_ W1 hB1 hK1 hG1).mono ?_
 ·rintro s W hi ⟨hl,hd⟩
  have hlt:w.heap.size+1<W.heap.size:=(Array.getElem?_eq_some_iff.1 hl).1;refine⟨fn,_,assign,body,run_yield (P:=P) (args:=encs s) hl (hps s),roundIn_of_wpIn hfn (hassign _ s W _ ⟨_,run_beginRound hl rfl,?_⟩)⟩
  let Wb:=W.putObj (w.heap.size+1) (rd .busy none)
  have hlb:Wb.heap[w.heap.size+1]? =some (rd .busy none):=World.putObj_heap_same hlt;have hdb:Wb.heap[w.heap.size]? =some (.deferred (some [])):=(World.putObj_heap_other (by omega)).trans hd;have hib:I s Wb:=hI s _ _ _ _ hi (by omega) hl rfl;have hkb:Kp W Wb:=hKb _ _ _ _ (by omega) hl rfl
  have ends:∀ (j:Option Code) (W3:World),KeepsFrom w.heap.size Wb W3->
   W3.heap[w.heap.size+1]? =some (rd .busy none)/\(Instr.endRound (w.heap.size+1) j).run P W3=.ok (.bool j.isNone) (W3.putObj (w.heap.size+1) (rd (if j.isNone then .ready else .done) j))/\
   (W3.putObj (w.heap.size+1) (rd (if j.isNone then .ready else .done) j)).heap[w.heap.size+1]? =some (rd (if j.isNone then .ready else .done) j)/\
   (W3.putObj (w.heap.size+1) (rd (if j.isNone then .ready else .done) j)).heap[w.heap.size]? =some (.deferred (some [])):=fun j W3 hk=>by
   have hl3:=hk.same _ _ (by omega) hlb rfl;exact⟨hl3,run_endRound (P:=P) j hl3,World.putObj_heap_same (Array.getElem?_eq_some_iff.1 hl3).1,(World.putObj_heap_other (by omega)).trans (hk.same _ _ (Nat.le_refl _) hdb rfl)⟩
  refine wpIn_mono (hbody _ s Wb (by show _<=(W.putObj _ _).heap.size;rw [World.putObj_size];omega) hib) ?_;rintro e a3 W3 hp
  cases e with
  |normal=>
   obtain⟨hk,hkp,hy⟩:=hp;obtain⟨hl3,hr,hl4,hd4⟩:=ends none W3 hk;exact⟨_,_,hr,.inl ⟨rfl,hIy s _ _ _ _ hy (by omega) hl3 rfl,hKt (hKt hkb hkp) (hKb _ _ _ _ (by omega) hl3 rfl),hl4,hd4⟩⟩
  |ret=>
   obtain⟨hl3,hr,hl4,hd4⟩:=ends (some .ret) W3 hp.1;exact⟨_,_,hr,.inr ⟨rfl,_,hIx _ _ _ _ _ hp.2 (by omega) hl3 rfl,hl4,hd4⟩⟩
  |exit id=>
   obtain⟨hl3,hr,hl4,hd4⟩:=ends (some (.exit id)) W3 hp.1;exact⟨_,_,hr,.inr ⟨rfl,_,hIx _ _ _ _ _ hp.2 (by omega) hl3 rfl,hl4,hd4⟩⟩
  |goto t=>
   obtain⟨hl3,hr,hl4,hd4⟩:=ends (some (.goto t)) W3 hp.1;exact⟨_,_,hr,.inr ⟨rfl,_,hIx _ _ _ _ _ hp.2 (by omega) hl3 rfl,hl4,hd4⟩⟩
  |panic ch=>exact hp.elim
  |outgrown=>exact hp.elim
 ·rintro e W2 ⟨⟨v,rfl⟩,(⟨hf,hl,hd⟩|⟨c,hx,hl,hd⟩)⟩
  ·exact⟨none,_,run_endLoop (P:=P) hl (by simp),hdone _ _ (Nat.le_refl _) (hFin _ _ _ _ hf (by omega) hl rfl) ((World.putObj_heap_other (by omega)).trans hd)⟩
  ·exact⟨some c,_,run_endLoop (P:=P) hl (by simp),hstop _ c _ (Nat.le_refl _) (hIx c _ _ _ _ hx (by omega) hl rfl) ((World.putObj_heap_other (by omega)).trans hd)⟩
end
end Go.Proofs.YtgjfhbpmahgfcaaDoor
