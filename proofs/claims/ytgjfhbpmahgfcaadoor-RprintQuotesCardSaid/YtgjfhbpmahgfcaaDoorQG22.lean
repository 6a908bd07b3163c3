/-
 hackleref13's Text and hackleref14's Quote, ON A QUOTED TEXT: contracts. Condition: the text has at most 2^30 bytes.
-/
import Derived.OwnWalk
import Derived.Test.YtgjfhbpmahgfcaaDoorQG21
namespace Go.Proofs.YtgjfhbpmahgfcaaDoor
section
open Go.Shelf Go.RowKit
attribute [local irreducible] FreeW textFrame
set_option maxRecDepth 100000 in
set_option maxHeartbeats 4000000 in
theorem text_ok (l:List UInt8)(hl:l.length<=1073741824)(w:World):Calls Tryd.prog 6 #[.string ⟨(quoteL l).toArray⟩] w fun e w'=>e=.returned (.tuple #[.string ⟨l.toArray⟩,.int .i64 ((⟨(quoteL l).toArray⟩:ByteArray).size:Nat),.int .i64 0])/\Below w.heap.size w w':=by
 have HQ:=zd (fun(b:Nat) (u:World) (h:RdAt b ⟨(quoteL l).toArray⟩ 0 u)=>xzjv l hl b u h);generalize(⟨(quoteL l).toArray⟩:ByteArray)=S at*;have hb:Below w.heap.size w (w.alloc (.cells #[.string S,.int .i64 0,.int .i64 0,.int .i64 0] 61)):=(Below.refl _ _).alloc (Nat.le_refl _) _;have HC:=zd (And.intro (HQ.out w.heap.size _ (BlkIs.new w 61 #[.string S,.int .i64 0,.int .i64 0,.int .i64 0])) hb);clear hb
 go_enter Tryd.func6,Tryd.ntmps6
 go_wp2_with(go_at_call 14;refine HC.out.1.mono ?_;rintro e w1 ⟨rfl,hu1,hr1⟩;obtain⟨c0,c1,c2,c3⟩:=RdAt.cells hr1;have HU:=zd (HC.out.2.trans hu1);clear hu1)
 go_quiet (fail)
 go_wp2
 go_ret3
 exact⟨rfl,below_drewN HU.out _⟩
theorem xzjw (s:ByteArray)(i:Nat)(h:i<s.size)(w:World):(Instr.slice 9 (.string s) (some (.int .i64 (i:Nat))) (some (.int .i64 ((i:Int)+1))) none).run Tryd.prog w=.ok (.string (s.extract i (i+1))) w:=
 run_slice_string w 9 s .i64 .i64 (i:Nat) ((i:Int)+1) Tryd.underlying9 (by omega) (by omega) (by omega)
theorem xzmg (s:ByteArray)(i:Nat)(h:i<s.size):(s.extract i (i+1)).data.toList=[s.data.toList[i]'(by rw [xzaf];exact h)]:=by
 rw [Lib.extract_data s i (i+1),List.drop_eq_getElem_cons (by rw [xzaf];exact h)]
 simp
theorem hex_one:∀ d:Fin 16,(⟨#[48,49,50,51,52,53,54,55,56,57,97,98,99,100,101,102]⟩:ByteArray).extract d.val (d.val+1)=⟨#[hexC d.val]⟩:=by decide+kernel
theorem xzfg (d:Nat)(h:d<16)(x y:Int)(hx:x=(d:Int))(hy:y=((d+1:Nat):Int))(w:World):(Instr.slice 9 (.string ⟨#[48,49,50,51,52,53,54,55,56,57,97,98,99,100,101,102]⟩) (some (.int .i64 x)) (some (.int .i64 y)) none).run Tryd.prog w=.ok (.string ⟨#[hexC d]⟩) w:=by
 subst hx hy;rw [run_slice_string w 9 _ .i64 .i64 _ _ Tryd.underlying9 (by omega) (by omega) (by show((d+1:Nat):Int)<=16;omega),show((d:Nat):Int).toNat=d by omega,show((d+1:Nat):Int).toNat=d+1 by omega,hex_one ⟨d,h⟩]
def preQ (s:ByteArray)(i:Nat):List UInt8:=([34]:List UInt8)++((s.data.toList.take i).flatMap fun c:UInt8=>qB c.toNat)
set_option maxRecDepth 100000 in
set_option maxHeartbeats 4000000 in
theorem xzeo (s:ByteArray)(hs:s.size<=1073741824)(w:World):Calls Tryd.prog 7 #[.string s] w fun e w'=>e=.returned (.string ⟨(quoteL s.data.toList).toArray⟩)/\Below w.heap.size w w':=by
 have hsl:=xzaf s;have H0:=zd (And.intro (show(⟨#[34]⟩:ByteArray).data.toList=preQ s 0 by simp [preQ]) (Below.refl w.heap.size w))
 go_enter Tryd.func7,Tryd.ntmps7
 go_wp2_with fail
 go_loopw [3,4] (fun v i wr=>∃ (j:Nat) (o:ByteArray),v=.string o/\i=.int .i64 j/\j<=s.size/\Hid (o.data.toList=preQ s j/\Below w.heap.size w wr)) (fun _ i _=>s.size - (intOf i).toNat)
 case atStart=>exact⟨0,_,rfl,rfl,Nat.zero_le _,H0⟩
 case round=>
  obtain⟨j,o,rfl,rfl,hj,HH⟩:=hrel
  by_cases hp:j<s.size
  ·have hdl:decide ((j:Int)<(s.size:Int))=true:=by simp;omega
   have hix:∀ w,(Instr.index 9 (.string s) (.int .i64 j)).run Tryd.prog w=.ok (.int .u8 (bt s j:Nat)) w:=fun w=>xzjj 9 Tryd.underlying9 s j hp w
   have hsi:=fun w=>xzjw s j hp w
   have hk1:IntKind.i64.wrap ((j:Int)+1)=((j+1:Nat):Int):=by rw [IntKind.wrap_i64];omega
   have hc:=bt_lt s j;have hone:=xzmg s j hp;have hbl:=xzdz s j hp
   have HT:=zd (show preQ s (j+1)=preQ s j++qB (bt s j)by
    unfold preQ;rw [xzcf s.data.toList j (by rw [hsl];exact hp),hbl]
    simp)
   have HO:=zd (show(s.extract j (j+1)).data.toList=[UInt8.ofNat (bt s j)]by
    rw [hone,hbl];simp)
   clear hone hbl;generalize bt s j=c at*;generalize s.extract j (j+1)=sx at*
   have hcw:IntKind.i64.wrap (c:Int)=(c:Int):=by rw [IntKind.wrap_i64];omega
   have hos:o.size<=1+4*j:=by
    rw [<-xzaf o,HH.out.1];unfold preQ;have h1:=xzbm (s.data.toList.take j)
    have h2:(s.data.toList.take j).length<=j:=by rw [List.length_take];omega
    simp only [List.length_append,List.length_singleton];omega
   have hsx:sx.size=1:=by rw [<-xzaf sx,HO.out];rfl
   have q1: ¬ 9223372036854775807<o.size+1:=by omega
   have q2: ¬ 9223372036854775807<o.size+2:=by omega
   have q3: ¬ 9223372036854775807<o.size+1+sx.size:=by omega
   have q4: ¬ 9223372036854775807<o.size+sx.size:=by omega
   have q5: ¬ 9223372036854775807<o.size+2+1:=by omega
   have q6: ¬ 9223372036854775807<o.size+2+1+1:=by omega
   by_cases e34:c=34
   ·subst e34
    clear hos hsx hc;go_wp2;refine⟨⟨j+1,_,rfl,by go_num,hp,zd ⟨?_,HH.out.2⟩⟩,by simp [intOf];omega⟩;rw [HT.out,show qB 34=[92,34]from rfl];simp only [ByteArray.data_append,Array.toList_append,HH.out.1,HO.out,List.append_assoc]
    rfl
   by_cases e92:c=92
   ·subst e92
    clear hos hsx hc;go_wp2;refine⟨⟨j+1,_,rfl,by go_num,hp,zd ⟨?_,HH.out.2⟩⟩,by simp [intOf];omega⟩;rw [HT.out,show qB 92=[92,92]from rfl];simp only [ByteArray.data_append,Array.toList_append,HH.out.1,HO.out,List.append_assoc]
    rfl
   by_cases e10:c=10
   ·subst e10
    clear hos hsx hc;go_wp2;refine⟨⟨j+1,_,rfl,by go_num,hp,zd ⟨?_,HH.out.2⟩⟩,by simp [intOf];omega⟩;rw [HT.out,show qB 10=[92,110]from rfl];simp only [ByteArray.data_append,Array.toList_append,HH.out.1]
   by_cases e13:c=13
   ·subst e13
    clear hos hsx hc;go_wp2;refine⟨⟨j+1,_,rfl,by go_num,hp,zd ⟨?_,HH.out.2⟩⟩,by simp [intOf];omega⟩;rw [HT.out,show qB 13=[92,114]from rfl];simp only [ByteArray.data_append,Array.toList_append,HH.out.1]
   by_cases e9:c=9
   ·subst e9
    clear hos hsx hc;go_wp2;refine⟨⟨j+1,_,rfl,by go_num,hp,zd ⟨?_,HH.out.2⟩⟩,by simp [intOf];omega⟩;rw [HT.out,show qB 9=[92,116]from rfl];simp only [ByteArray.data_append,Array.toList_append,HH.out.1]
   have n34:((c:Int)==34)=false:=by simp;omega
   have n92:((c:Int)==92)=false:=by simp;omega
   have n10:((c:Int)==10)=false:=by simp;omega
   have n13:((c:Int)==13)=false:=by simp;omega
   have n9:((c:Int)==9)=false:=by simp;omega
   by_cases hpr:32<=c/\c<=126
   ·have p1:decide ((c:Int)>=32)=true:=by simp;omega
    have p1b:decide ((32:Int)<=(c:Int))=true:=by simp;omega
    have p2:decide ((c:Int)<=126)=true:=by simp;omega
    have hqq:qB c=[UInt8.ofNat c]:=by unfold qB;rw [if_neg (by omega),if_neg e10,if_neg e13,if_neg e9,if_pos hpr]
    clear e34 e92 e10 e13 e9 hpr;go_wp2;refine⟨⟨j+1,_,rfl,by go_num,hp,zd ⟨?_,HH.out.2⟩⟩,by simp [intOf];omega⟩;rw [HT.out,hqq];simp only [ByteArray.data_append,Array.toList_append,HH.out.1,HO.out]
   have hqq:qB c=[92,120,hexC (c / 16),hexC (c%16)]:=by unfold qB;rw [if_neg (by omega),if_neg e10,if_neg e13,if_neg e9,if_neg hpr]
   have HQQ:=zd hqq
   have hh:=fun x y hx hy w=>xzfg (c / 16) (by omega) x y hx hy w
   have hg:=fun x y hx hy w=>xzfg (c%16) (by omega) x y hx hy w
   have hpp:(c<32)\/(32<=c/\126<c):=by omega
   clear e34 e92 e10 e13 e9 hpr hqq
   rcases hpp with hlo|⟨hlo,hhi⟩
   ·have p1:decide ((c:Int)>=32)=false:=by simp;omega
    have p1b:decide ((32:Int)<=(c:Int))=false:=by simp;omega
    go_wp2_with fail
    go_quiet (fail)
    go_wp2;refine⟨⟨j+1,_,rfl,by go_num,hp,zd ⟨?_,below_drewN HH.out.2 _⟩⟩,by simp [intOf];omega⟩;rw [HT.out,HQQ.out];simp only [ByteArray.data_append,Array.toList_append,HH.out.1,List.append_assoc]
    rfl
   ·have p1:decide ((c:Int)>=32)=true:=by simp;omega
    have p1b:decide ((32:Int)<=(c:Int))=true:=by simp;omega
    have p2:decide ((c:Int)<=126)=false:=by simp;omega
    go_wp2_with fail
    go_quiet (fail)
    go_wp2;refine⟨⟨j+1,_,rfl,by go_num,hp,zd ⟨?_,below_drewN HH.out.2 _⟩⟩,by simp [intOf];omega⟩;rw [HT.out,HQQ.out];simp only [ByteArray.data_append,Array.toList_append,HH.out.1,List.append_assoc]
    rfl
  ·have hdl:decide ((j:Int)<(s.size:Int))=false:=by simp;omega
   obtain rfl:j=s.size:=by omega
   have HZ:=zd (show(o++⟨#[34]⟩:ByteArray)=⟨(quoteL s.data.toList).toArray⟩by
    apply ByteArray.ext
    rw [ByteArray.data_append,<-Array.toList_inj,Array.toList_append,HH.out.1];unfold preQ quoteL
    rw [<-hsl,List.take_length])
   have hos:o.size<=1+4*s.size:=by
    rw [<-xzaf o,HH.out.1];unfold preQ;have h1:=xzbm (s.data.toList.take s.size)
    have h2:(s.data.toList.take s.size).length<=s.size:=by rw [List.length_take];omega
    simp only [List.length_append,List.length_singleton];omega
   have q1: ¬ 9223372036854775807<o.size+1:=by omega
   clear hos;go_wp2;go_ret;exact⟨congrArg (fun x=>Ending.returned (.string x)) HZ.out,HH.out.2⟩
end
section
open Go.Shelf Go.RowKit
attribute [local irreducible] FreeW textFrame
set_option maxRecDepth 100000 in
set_option maxHeartbeats 4000000 in
theorem xzif (s:ByteArray)(w:World)(hT:Tab w):Calls Tryd.prog 3 #[.string s] w fun e w'=>e=.returned (.bool true)/\Below w.heap.size w w':=by
 have HA:=zd (xzgh w hT);clear hT
 by_cases hs:s.size<=1000
 ·have hd:decide ((s.size:Int)>1000)=false:=by simp;omega
  have hd':decide ((1000:Int)<(s.size:Int))=false:=by simp;omega
  have hl:s.data.toList.length<=1073741824:=by rw [xzaf];omega
  have hq:(⟨s.data.toList.toArray⟩:ByteArray)=s:=by rw [Array.toArray_toList]
  have HQ:=zd (fun u=>xzjs s (by omega) u);have HR:=zd (fun u=>xzeo s (by omega) u);have HT:=zd (fun u=>text_ok s.data.toList hl u);rw [hq]at HT;generalize(⟨(quoteL s.data.toList).toArray⟩:ByteArray)=q at*;clear hl hq
  go_enter Tryd.func3,Tryd.ntmps3
  go_wp2_with(first
   |(go_at_call 4;refine HA.out.mono ?_;rintro e w1 ⟨rfl,hb1⟩;have HB:=zd hb1;clear hb1)
   |(go_at_call 5;refine(HQ.out _).mono ?_;rintro e w2 ⟨rfl,hb2⟩;have HB2:=zd (HB.out.trans (hb2.mono HB.out.size));clear hb2)
   |(go_at_call 6;refine(HT.out _).mono ?_;rintro e w3 ⟨rfl,hb3⟩;have HB3:=zd (HB2.out.trans (hb3.mono HB2.out.size));clear hb3)
   |(go_at_call 7;refine(HR.out _).mono ?_;rintro e w4 ⟨rfl,hb4⟩;have HB4:=zd (HB3.out.trans (hb4.mono HB3.out.size));clear hb4))
  go_ret;exact⟨rfl,HB4.out⟩
 ·have hd:decide ((s.size:Int)>1000)=true:=by simp;omega
  have hd':decide ((1000:Int)<(s.size:Int))=true:=by simp;omega
  go_enter Tryd.func3,Tryd.ntmps3
  go_wp2_with(go_at_call 4;refine HA.out.mono ?_;rintro e w1 ⟨rfl,hb1⟩)
  go_ret;exact⟨rfl,hb1⟩
end
end Go.Proofs.YtgjfhbpmahgfcaaDoor
