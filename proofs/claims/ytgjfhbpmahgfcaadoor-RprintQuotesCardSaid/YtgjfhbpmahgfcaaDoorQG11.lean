/-
 CONTRACTS OF THE LIBRARY, LAID AT THIS PROGRAM: each is one application of what is proved of any program. No condition but those that each names.
-/
import Derived.Shelf.Strings.Builder1
import Derived.Shelf.Strings.Builder2
import Derived.Shelf.Strings.OnBuilder
import Derived.Shelf.Strconv.Itoa0
import Derived.Shelf.Strconv.Itoa1
import Derived.Shelf.LaysM
import Derived.Shelf.Strconv.Itoa2
import Derived.Shelf.Strconv.Itoa3
import Derived.Test.YtgjfhbpmahgfcaaDoorProg
import Derived.Deep.RegionHeld
import Derived.Test.YtgjfhbpmahgfcaaDoorQG10
import Derived.Test.YtgjfhbpmahgfcaaDoorQG09
namespace Go.Proofs.YtgjfhbpmahgfcaaDoor
section
open Go.Shelf
def xzcs:Go.Shelf.Ren:=⟨fun|156=>80|165=>94|166=>11|169=>13|240=>19|241=>99|276=>35|277=>101|n=>n,fun|31=>96|9=>9|3=>3|4=>4|0=>0|20=>20|72=>51|76=>55|70=>48|37=>49|75=>53|127=>70|164=>87|5=>5|80=>58|n=>n,fun|n=>n⟩
theorem lays156:Go.Proofs.Lays.n156 Tryd.prog xzcs:={
 mixed:=by kernel_rfl
 f156:=Tryd.func80.trans (congrArg some (by kernel_rfl))
 f165:=Tryd.func94.trans (congrArg some (by kernel_rfl))
 f166:=Tryd.func11.trans (congrArg some (by kernel_rfl))
 f169:=Tryd.func13.trans (congrArg some (by kernel_rfl))
 f240:=Tryd.func19.trans (congrArg some (by kernel_rfl))
 f241:=Tryd.func99.trans (congrArg some (by kernel_rfl))
 f276:=Tryd.func35.trans (congrArg some (by kernel_rfl))
 f277:=Tryd.func101.trans (congrArg some (by kernel_rfl))
 t0:=Tryd.underlying0
 a0:=Tryd.isAgg0
 z0:=Tryd.sizeOf0
 v0:=Tryd.zeroValue0
 t3:=Tryd.underlying3
 a3:=Tryd.isAgg3
 z3:=Tryd.sizeOf3
 v3:=Tryd.zeroValue3
 t4:=Tryd.underlying4
 a4:=Tryd.isAgg4
 z4:=Tryd.sizeOf4
 v4:=Tryd.zeroValue4
 t9:=Tryd.underlying9
 a9:=Tryd.isAgg9
 z9:=Tryd.sizeOf9
 v9:=Tryd.zeroValue9
 t20:=Tryd.underlying20
 a20:=Tryd.isAgg20
 z20:=Tryd.sizeOf20
 v20:=Tryd.zeroValue20
 t31:=Tryd.underlying96
 a31:=Tryd.isAgg96
 z31:=Tryd.sizeOf96
 v31:=Tryd.zeroValue96
 t37:=Tryd.underlying49
 a37:=Tryd.isAgg49
 z37:=Tryd.sizeOf49
 v37:=Tryd.zeroValue49
 t70:=Tryd.underlying48
 a70:=Tryd.isAgg48
 z70:=Tryd.sizeOf48
 v70:=Tryd.zeroValue48
 t72:=Tryd.underlying51
 a72:=Tryd.isAgg51
 z72:=Tryd.sizeOf51
 v72:=Tryd.zeroValue51
 t75:=Tryd.underlying53
 a75:=Tryd.isAgg53
 z75:=Tryd.sizeOf53
 v75:=Tryd.zeroValue53
 t76:=Tryd.underlying55
 a76:=Tryd.isAgg55
 z76:=Tryd.sizeOf55
 v76:=Tryd.zeroValue55
 t127:=Tryd.underlying70
 a127:=Tryd.isAgg70
 z127:=Tryd.sizeOf70
 v127:=Tryd.zeroValue70
 t164:=Tryd.underlying87
 a164:=Tryd.isAgg87
 z164:=Tryd.sizeOf87
 v164:=Tryd.zeroValue87}
theorem xzaw:Builder.Extra Tryd.prog xzcs:={
 sizeBuilder:=by kernel_rfl
 liesBuilder:=by kernel_rfl
 t5:=Tryd.underlying5
 a5:=Tryd.isAgg5
 z5:=Tryd.sizeOf5
 v5:=Tryd.zeroValue5
 infoByte:=by kernel_rfl
 cellsByte:=by kernel_rfl
 sizeByte:=by kernel_rfl
 neB5:=by decide}
open Go.RowKit in
theorem strings_Join_none (a:Option Addr)(c:Nat)(sep:ByteArray)(w:World):
 Calls Tryd.prog 80 #[.slice a 0 c,.string sep] w fun e w'=>e=.returned (.string ⟨#[]⟩)/\w'=w:=Any.strings_Join_none lays156 xzaw a c sep w
open Go.RowKit in
theorem strings_Join (bk o c:Nat)(xs:List ByteArray)(sep:ByteArray)(w:World)(hcells:∀ (j:Nat) x,xs[j]? =some x->w.cell? ⟨bk,o+j,none⟩=some (.string x))(hbk:bk<w.heap.size)(hN:xs.length<=140737488355328)(hcap:xs.length<=c)(hlen:(Lib.join (xs.map (·.data.toList)) sep.data.toList).length<=140737488355328):
 Calls Tryd.prog 80 #[.slice (some ⟨bk,o,none⟩) xs.length c,.string sep] w fun e w'=>e=.returned (.string ⟨(Lib.join (xs.map (·.data.toList)) sep.data.toList).toArray⟩)/\Below w.heap.size w w':=Any.strings_Join lays156 xzaw bk o c xs sep w hcells hbk hN hcap hlen
def xzfs:Go.Shelf.Ren:=⟨fun|171=>31|243=>44|246=>55|283=>67|284=>68|285=>69|286=>70|129=>83|317=>82|318=>84|319=>85|320=>86|337=>95|338=>96|n=>n,fun|3=>3|9=>9|2=>2|4=>4|171=>122|0=>0|53=>28|37=>49|5=>5|173=>125|212=>138|51=>139|20=>20|213=>140|46=>69|232=>153|233=>154|n=>n,fun|17=>0|18=>1|19=>2|n=>n⟩
theorem lays171:Go.Proofs.Lays.n171 Tryd.prog xzfs:={
 mixed:=by kernel_rfl
 f129:=Tryd.func83.trans (congrArg some (by kernel_rfl))
 f171:=Tryd.func31.trans (congrArg some (by kernel_rfl))
 f243:=Tryd.func44.trans (congrArg some (by kernel_rfl))
 f246:=Tryd.func55.trans (congrArg some (by kernel_rfl))
 f283:=Tryd.func67.trans (congrArg some (by kernel_rfl))
 f284:=Tryd.func68.trans (congrArg some (by kernel_rfl))
 f285:=Tryd.func69.trans (congrArg some (by kernel_rfl))
 f286:=Tryd.func70.trans (congrArg some (by kernel_rfl))
 f317:=Tryd.func82.trans (congrArg some (by kernel_rfl))
 f318:=Tryd.func84.trans (congrArg some (by kernel_rfl))
 f319:=Tryd.func85.trans (congrArg some (by kernel_rfl))
 f320:=Tryd.func86.trans (congrArg some (by kernel_rfl))
 f337:=Tryd.func95.trans (congrArg some (by kernel_rfl))
 f338:=Tryd.func96.trans (congrArg some (by kernel_rfl))
 t0:=Tryd.underlying0
 a0:=Tryd.isAgg0
 z0:=Tryd.sizeOf0
 v0:=Tryd.zeroValue0
 t2:=Tryd.underlying2
 a2:=Tryd.isAgg2
 z2:=Tryd.sizeOf2
 v2:=Tryd.zeroValue2
 t3:=Tryd.underlying3
 a3:=Tryd.isAgg3
 z3:=Tryd.sizeOf3
 v3:=Tryd.zeroValue3
 t4:=Tryd.underlying4
 a4:=Tryd.isAgg4
 z4:=Tryd.sizeOf4
 v4:=Tryd.zeroValue4
 t5:=Tryd.underlying5
 a5:=Tryd.isAgg5
 z5:=Tryd.sizeOf5
 v5:=Tryd.zeroValue5
 t9:=Tryd.underlying9
 a9:=Tryd.isAgg9
 z9:=Tryd.sizeOf9
 v9:=Tryd.zeroValue9
 t20:=Tryd.underlying20
 a20:=Tryd.isAgg20
 z20:=Tryd.sizeOf20
 v20:=Tryd.zeroValue20
 t37:=Tryd.underlying49
 a37:=Tryd.isAgg49
 z37:=Tryd.sizeOf49
 v37:=Tryd.zeroValue49
 t46:=Tryd.underlying69
 a46:=Tryd.isAgg69
 z46:=Tryd.sizeOf69
 v46:=Tryd.zeroValue69
 t51:=Tryd.underlying139
 a51:=Tryd.isAgg139
 z51:=Tryd.sizeOf139
 v51:=Tryd.zeroValue139
 t53:=Tryd.underlying28
 a53:=Tryd.isAgg28
 z53:=Tryd.sizeOf28
 v53:=Tryd.zeroValue28
 t171:=Tryd.underlying122
 a171:=Tryd.isAgg122
 z171:=Tryd.sizeOf122
 v171:=Tryd.zeroValue122
 t173:=Tryd.underlying125
 a173:=Tryd.isAgg125
 z173:=Tryd.sizeOf125
 v173:=Tryd.zeroValue125
 t212:=Tryd.underlying138
 a212:=Tryd.isAgg138
 z212:=Tryd.sizeOf138
 v212:=Tryd.zeroValue138
 t213:=Tryd.underlying140
 a213:=Tryd.isAgg140
 z213:=Tryd.sizeOf140
 t232:=Tryd.underlying153
 a232:=Tryd.isAgg153
 z232:=Tryd.sizeOf153
 v232:=Tryd.zeroValue153
 t233:=Tryd.underlying154
 a233:=Tryd.isAgg154
 z233:=Tryd.sizeOf154
 v233:=Tryd.zeroValue154
 g17:=by kernel_rfl
 g18:=by kernel_rfl
 g19:=by kernel_rfl}
open Go.RowKit Go.Sort Go.Lib in
theorem strconv_Itoa_small (i:Nat)(hi:i<100)(w:World):
 Calls Tryd.prog 31 #[.int .i64 i] w fun e w'=>e=.returned (.string ⟨(Lib.decDigits i).toArray⟩)/\w'=w:=Any.strconv_Itoa_small lays171 i hi w
end
section
open Go.RowKit
structure Trip (O:Nat->Prop)(W:World)(O':Nat->Prop)(W':World):Prop where
 inn:InN O W O'
 far:Far O W W'
theorem Trip.refl (O:Nat->Prop)(W:World):Trip O W O W:=⟨InN.refl O W,Far.refl O W⟩
theorem Trip.trans {O O' O2:Nat->Prop}{A B C:World}(h:Trip O A O' B)(k:Trip O' B O2 C):Trip O A O2 C:=⟨h.inn.trans k.inn h.far.size,h.far.trans h.inn k.far⟩
theorem Trip.sub {O O' O2:Nat->Prop}{A B:World}(h:Trip O A O' B)(hs:∀ k,O2 k->O' k):Trip O A O2 B:=⟨fun k hk=>h.inn k (hs k hk),h.far⟩
theorem Trip.add {O O':Nat->Prop}{A B:World}(h:Trip O A O' B){b:Nat}(hb:A.heap.size<=b):Trip O A (fun k=>O' k\/k=b) B:=
 ⟨fun k hk=>hk.elim (h.inn k) (fun e=>.inr (e▸hb)),h.far⟩
theorem Trip.below {O O':Nat->Prop}{A B C:World}(h:Trip O A O' B)(k:Below B.heap.size B C):Trip O A O' C:=⟨h.inn,h.far.trans h.inn (Far.of_below k)⟩
theorem Trip.put {O O':Nat->Prop}{A B:World}(h:Trip O A O' B){l:Nat}(hl:A.heap.size<=l)(o:Obj):Trip O A O' (B.putObj l o):=by
 refine⟨h.inn,?_⟩;have h2:=h.add hl;exact⟨h.far.os,h.far.tape,h.far.output,by simpa using h.far.size,fun k hk hn=>(World.putObj_heap_other (by omega)).trans (h.far.far k hk hn)⟩
theorem NextIs.of {O O':Nat->Prop}{W W':World}{J:Held}(h:Trip O W O' W')(hj:J O' W'):NextIs O W J W':=⟨O',hj,h.inn,h.far⟩
def With (J:Held)(b:Nat)(o:Obj):Held:=fun O W=>∃ Oo,J Oo W/\(∀ k,O k↔Oo k\/k=b)/\ ¬ Oo b/\W.heap[b]? =some o
theorem With.start {J:Held}{O:Nat->Prop}{W:World}{b:Nat}{o:Obj}(h:J O W)(hn: ¬ O b)(hb:W.heap[b]? =some o):With J b o (fun k=>O k\/k=b) W:=⟨O,h,fun _=>Iff.rfl,hn,hb⟩
theorem Holder.and {J:Held}(h:Holder J)(p:Prop):Holder (fun O W=>p/\J O W):=⟨fun O W hj=>h.lt O W hj.2,fun O W W' hj hk=>⟨hj.1,h.keep O W W' hj.2 hk⟩⟩
theorem xzhh {O:Nat->Prop}{W W':World}(hb:Below W.heap.size W W')(hl:∀ k,O k->k<W.heap.size):Near O W W':=⟨hb.size,fun k hk=>hb.block k (hl k hk)⟩
theorem Holder.below {J:Held}(h:Holder J){O:Nat->Prop}{W W':World}(hj:J O W)(hb:Below W.heap.size W W'):J O W':=h.keep _ _ _ hj (xzhh hb (h.lt _ _ hj))
theorem Holder.put {J:Held}(h:Holder J){O:Nat->Prop}{W:World}{l:Nat}(hj:J O W)(hn: ¬ O l)(o:Obj):J O (W.putObj l o):=h.keep _ _ _ hj (xzlk o hn)
end
section
open Go.RowKit
end
section
open Go.RowKit
end
section
open Go.RowKit
end
section
mutual
def Tree.empty:Tree->Bool
 | .node k _ l lo _=>if k=0 then true else if k=1 then false else if k=2 then allEmpty l else if k=3 then anyEmpty l else(decide (lo<=0)||headEmpty l)
def allEmpty:List Tree->Bool
 |[]=>true
 |t::r=>t.empty&&allEmpty r
def anyEmpty:List Tree->Bool
 |[]=>false
 |t::r=>t.empty||anyEmpty r
def headEmpty:List Tree->Bool
 |[]=>false
 |t::_=>t.empty
end
mutual
def Tree.first (b:Nat):Tree->Bool
 | .node k m l _ hi=>if k=0 then false else if k=1 then m b else if k=2 then(!anyVoid l&&firstCat b l)else if k=3 then firstAlt b l else(decide (hi≠0)&&headFirst b l)
def firstCat (b:Nat):List Tree->Bool
 |[]=>false
 |t::r=>t.first b||(t.empty&&firstCat b r)
def firstAlt (b:Nat):List Tree->Bool
 |[]=>false
 |t::r=>t.first b||firstAlt b r
def headFirst (b:Nat):List Tree->Bool
 |[]=>false
 |t::_=>t.first b
end
mutual
def Tree.last (b:Nat):Tree->Bool
 | .node k m l _ hi=>if k=0 then false else if k=1 then m b else if k=2 then(!anyVoid l&&lastCat b l)else if k=3 then lastAlt b l else(decide (hi≠0)&&headLast b l)
def lastCat (b:Nat):List Tree->Bool
 |[]=>false
 |t::r=>lastCat b r||(allEmpty r&&t.last b)
def lastAlt (b:Nat):List Tree->Bool
 |[]=>false
 |t::r=>t.last b||lastAlt b r
def headLast (b:Nat):List Tree->Bool
 |[]=>false
 |t::_=>t.last b
end
section
variable (b : Nat) (m : Nat → Bool) (l : List Tree) (lo hi : Int)
end
def byteAt (s:List UInt8)(i:Nat):Nat:=(s.getD i 0).toNat
def beginsRep (B:(Nat->Bool)->Bool)(E:(Nat->Bool)->Nat->Bool)(n:Nat):Nat->(Nat->Bool)->Bool
 |0,f=>f n
 |q+1,f=>B f||beginsRep B E n q (E f)
mutual
def Tree.begins (s:List UInt8):Tree->(Nat->Bool)->Bool
 | .node k m l lo hi=>fun f=>if k=0 then f s.length else if k=1 then(if setEq m (fun _=>false)then false else f s.length||(decide (0<s.length)&&(f (s.length - 1)&&m (byteAt s (s.length - 1)))))
  else if k=2 then(if anyVoid l then false else beginsCat s l f)else if k=3 then beginsAlt s l f
  else(if(decide (0<lo)&&headVoid l)=true then false else if f s.length then true else beginsRep (headBegins s l) (headEnds s l) s.length (mostOf s lo hi) f)
def beginsCat (s:List UInt8):List Tree->(Nat->Bool)->Bool
 |[]=>fun f=>f s.length
 |t::r=>fun f=>t.begins s f||beginsCat s r (t.ends s f)
def beginsAlt (s:List UInt8):List Tree->(Nat->Bool)->Bool
 |[]=>fun _=>false
 |t::r=>fun f=>t.begins s f||beginsAlt s r f
def headBegins (s:List UInt8):List Tree->(Nat->Bool)->Bool
 |[]=>fun _=>false
 |t::_=>t.begins s
end
section
variable (m : Nat → Bool) (l : List Tree) (lo hi : Int)
end
end
end Go.Proofs.YtgjfhbpmahgfcaaDoor
