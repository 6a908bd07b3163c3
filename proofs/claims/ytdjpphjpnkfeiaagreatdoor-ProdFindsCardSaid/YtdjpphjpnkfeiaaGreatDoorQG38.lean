/-
 WHAT slices.Reverse OF BYTES AND (*prod.walk).text DO: the text by which a step was come to: contracts. Condition: a walker lies there, each of whose steps was found from one ahead of it.
-/
import Derived.Sort.WalkB12
import Derived.Lib.SlicesMore
import Derived.Deep.LoopGhost
import Derived.WalkKit
import Derived.Lib.BufferRead
import Derived.Test.YtdjpphjpnkfeiaaGreatDoorQG36
namespace Go.Proofs.YtdjpphjpnkfeiaaGreatDoor
section
open Go.RowKit Go.Sort
attribute [local irreducible] FreeW textFrame
def encN (b:Nat):Value:=.int .u8 (b:Int)
set_option maxHeartbeats 4000000 in
set_option maxRecDepth 1000000 in
theorem xzsd (blk off cap:Nat)(d:Array Nat)(w:World)(hH:Holds encN w blk off d)(hsz:d.size<=9223372036854775807):
 Calls Tryz.prog 77 #[.slice (some ⟨blk,off,none⟩) d.size cap] w fun e w'=>e=.returned (.tuple #[])/\∃ n,w'=putRow encN (Sort.ahead w n) blk off d.reverse:=by
 go_enter Tryz.func77,Tryz.ntmps77
 go_wp2
 go_loopg [2,3] d.size (fun k s2 s3 wr=>∃ (i jn:Nat) (jz:Int) (dk:Array Nat) (n:Nat),s2=.int .i64 i/\s3=.int .i64 jz/\((i:Int)<jz->jz=jn/\jn<d.size)/\(¬ (i:Int)<jz-> ¬ i<jn)/\jn - i<=k/\
  dk.size=d.size/\wr=putRow encN (Sort.ahead w n) blk off dk/\reverseLoop i jn dk=reverseLoop 0 (d.size - 1) d)
 case atStart=>exact⟨0,d.size - 1,(d.size:Int) - 1,d,0,rfl,rfl,fun h=>⟨by omega,by omega⟩,fun h=>by omega,by omega,rfl,(putRow_self encN w blk off d hH).symm,rfl⟩
 case round=>
  obtain⟨i,jn,jz,dk,n,rfl,rfl,h1,h2,hk,hds,hwr,heq⟩:=hrel
  by_cases hlt:(i:Int)<jz
  ·obtain⟨rfl,hjn⟩:=h1 hlt
   have hij:i<jn:=by omega
   have hHk:Holds encN wr blk off dk:=by rw [hwr];exact holds_putRow encN _ blk off d dk (holds_ahead encN w n blk off d hH) hds
   obtain⟨ci,fi⟩:=hHk i (by omega);obtain⟨cj,fj⟩:=hHk jn (by omega);unfold encN at ci cj;have A:Aside (wr=putRow encN (Sort.ahead w n) blk off dk):=hwr;clear hwr hHk hH h1 h2
   go_wp2_with fail
   go_region
   go_wp2
   go_roundg (jn - 1 - (i+1))
   case measure=>omega
   case rel=>
    rw [reverseLoop,if_pos hij]at heq
    exact⟨i+1,jn - 1,(jn:Int) - 1,swp dk i jn,n+1,by simp,rfl,fun h=>⟨by omega,by omega⟩,fun h=>by omega,Nat.le_refl _,by rw [size_swp];exact hds,
     swap_world encN (by omega) (by omega) A.out (by first|rfl|simp [encN,getElem!_pos,show jn<dk.size by omega]) (by first|rfl|simp [encN,getElem!_pos,show i<dk.size by omega]),heq⟩
  ·have hnot:=h2 hlt
   go_wp2
   go_end0
   refine⟨rfl,n,?_⟩;rw [reverseLoop,if_neg hnot]at heq;rw [<-Lib.reverseLoop_reverse,<-heq]
set_option maxHeartbeats 1000000 in
theorem xzse (cap:Nat)(A:Option Addr)(w:World):Calls Tryz.prog 77 #[.slice A 0 cap] w fun e w'=>e=.returned (.tuple #[])/\w'=w:=by
 go_enter Tryz.func77,Tryz.ntmps77
 go_wp2
 go_loopg [2,3] 0 (fun _ s2 s3 wr=>s2=.int .i64 0/\s3=.int .i64 (-1)/\wr=w)
 case atStart=>exact⟨rfl,rfl,rfl⟩
 case round=>
  obtain⟨rfl,rfl,rfl⟩:=hrel;go_wp2
  go_end0
  exact⟨rfl,rfl⟩
theorem xzxp {B:Nat}{a w:World}{g off:Nat}{d:Array Nat}(h:Below B a w)(hg:B<=g):Below B a (putRow encN w g off d):=
 ⟨h.os,h.tape,h.output,by simpa [putRow,mapBlock]using h.size,fun k hk=>by
  rw [<-h.block k hk]
  simp [putRow,mapBlock,Array.getElem?_modify,show g≠k by omega]⟩
theorem xzsf {B:Nat}{a w:World}{n:Nat}(h:Below B a w):Below B a (Sort.ahead w n):=⟨h.os,h.tape,h.output,h.size,h.block⟩
theorem u8_back {b:Nat}(h:b<256):((UInt8.ofNat b).toNat:Int)=(b:Int):=by
 rw [UInt8.toNat_ofNat'];omega
def RevIs (B:Nat)(v:Value)(l:List Nat)(W:World):Ending->World->Prop:=fun e w'=>e=.returned (.tuple #[])/\(convert 71 9 v).run Tryz.prog w'=.ok (.string (txB l.reverse)) w'/\Below B W w'
theorem xzsg {B:Nat}{W:World}{v:Value}{l:List Nat}(h:BytR B W v l)(hl:∀ x∈l,x<256):Calls Tryz.prog 77 #[v] W (RevIs B v l W):=by
 rcases h.2 with⟨rfl,h0⟩|⟨g,cap,cur,rfl,h1,h2,h3,h4,h5⟩
 ·obtain rfl:l=[]:=List.eq_nil_of_length_eq_zero h0
  refine(xzse 0 none W).mono ?_;rintro e w' ⟨rfl,rfl⟩;exact⟨rfl,Lib.run_convert_nil_bytes w' _ _ 5 0 Tryz.underlying71 Tryz.underlying5 Tryz.underlying9,Below.refl _ _⟩
 ·have hb:BlkIs W g 5 cur:=h2
  have hH:Holds encN W g 0 l.toArray:=fun j hj=>by
   have hj':j<l.length:=by simpa using hj
   refine⟨?_,by rw [Nat.zero_add];exact hb.frozen j⟩;have:=World.ownsRow.cells (g:=g) h rfl j (encN l[j]) (by unfold bytesV encN;rw [List.getElem?_map,List.getElem?_eq_getElem hj'];rfl);rw [Addr.add_lit]at this;rw [this]
   simp [hj']
  have hc:=xzsd g 0 cap l.toArray W hH (by have:=h3;have h6:=h4;unfold maxLen at h6;simp;omega);rw [List.size_toArray]at hc;refine hc.mono ?_;rintro e w' ⟨rfl,n,rfl⟩;refine⟨rfl,?_,xzxp (xzsf (Below.refl _ _)) h1⟩;have hH2:Holds encN (putRow encN (Sort.ahead W n) g 0 l.toArray.reverse) g 0 l.toArray.reverse:=holds_putRow encN _ g 0 l.toArray _ (holds_ahead encN W n g 0 _ hH) (by simp)
  have:=run_convert_bytes_back (P:=Tryz.prog) (putRow encN (Sort.ahead W n) g 0 l.toArray.reverse) 71 9 5 ⟨g,0,none⟩ cap (l.reverse.map UInt8.ofNat) Tryz.underlying71 Tryz.underlying5 Tryz.underlying9 (fun j hj=>by
   have hj':j<l.length:=by simpa using hj
   have h6:=(hH2 j (by simpa using hj')).1;rw [Addr.add_lit];rw [h6];unfold encN;simp only [List.reverse_toArray,List.getElem!_toArray,List.getElem_map]
   rw [getElem!_pos _ _ (by simpa using hj'),u8_back (hl _ (List.mem_reverse.1 (List.getElem_mem _)))])
  rw [List.length_map,List.length_reverse]at this;exact this
theorem BytR.push2 {B:Nat}{W:World}{v:Value}{l:List Nat}(h:BytR B W v l)(hB:B<=W.heap.size)(p:Nat)(hl:l.length+1<=1099511627776):
 ∃ v' W',(Builtin.append_ #[71,71] 71 #[v,.slice (some ⟨W.heap.size,0,none⟩) 1 1]).run Tryz.prog (W.alloc (.cells #[.int .u8 (p:Int)] 5))=.ok v' W'/\BytR B W' v' (l++[p])/\Below B W W'/\∀ b t cs,BlkIs W b t cs->t≠5->BlkIs W' b t cs:=by
 obtain⟨i0,hi0,hz0,hz1,hz2⟩:=info_parts yzcr;have hUB:Below W.heap.size W (W.alloc (.cells #[.int .u8 (p:Int)] 5)):=(Below.refl _ _).alloc (Nat.le_refl _) _;have h1:=h.step hUB;have hnew:=BlkIs.new W 5 #[.int .u8 (p:Int)]
 obtain⟨v',W',hr,hown,hgr,_,_⟩:=run_append_own_at (P:=Tryz.prog) (w:=W.alloc (.cells #[.int .u8 (p:Int)] 5)) B 71 71 5 i0 (.int .u8 0) 1 1 Tryz.underlying71 hi0 hz0 hz1 hz2 rfl (by decide) v l.length _ h1
  ⟨W.heap.size,0,none⟩ 1 1 [.int .u8 (p:Int)] rfl (fun j u hu=>by
   rw [Addr.add_lit,Nat.zero_add];have:=hnew.range j u (by simpa using hu)
   simpa using this) (by simp [Value.oneCell']) (by unfold maxLen;omega) (by omega) (by have:=hUB.size;omega)
 refine⟨v',W',hr,?_,(hUB.mono hB).grown hgr (by have:=hUB.size;omega) (fun q hq=>(World.ownsRow.lt h1 q hq).1),fun b t cs hb ht=>xzbw (hb.step hUB) hgr fun e=>?_⟩
 ·unfold BytR bytesV
  rw [List.map_append,List.length_append];exact hown
 ·obtain⟨cur,hc⟩:=xzcq h1 e.symm
  exact xzil (hb.step hUB) hc ht rfl
theorem ParZ.len {Z:List Zt}(h:ParZ Z):∀ (i:Nat) (hi:i<Z.length),(Z[i]).tx.length<=i:=by
 intro i
 induction i using Nat.strongRecOn with
 |ind i ih=>
  intro hi
  rcases(h i hi).2 with⟨_,h2⟩|⟨j,hj,_,h2⟩
  ·rw [h2];simp
  ·rw [h2,List.length_append]
   have:=ih j hj (by omega)
   simp;omega
def lenY:Value->Nat| .slice _ n _=>n|_=>0
theorem xzxq {B:Nat}{W:World}{v:Value}{l:List Nat}(h:BytR B W v l):lenY v=l.length:=by
 obtain⟨A,c,rfl⟩:=BytR.form h
 rfl
set_option maxRecDepth 20000 in
set_option maxHeartbeats 16000000 in
theorem xzoj (p:WP)(Z:List Zt)(vf:Value)(w:World)(h:Wk p Z vf w)(hpar:ParZ Z)(at':Nat)(hat:at'<Z.length)(hzl:Z.length<=1073741824):
 Calls Tryz.prog 58 #[.pointer (some ⟨p.g,0,none⟩),.int .i64 (at':Nat)] w fun e w'=>e=.returned (.string (txB (Z[at']).tx))/\Below w.heap.size w w':=by
 obtain⟨bf,cf,rfl,hcfb,hcl⟩:=h.stepAt hat;have h256:=hpar.tx256 at' hat;have hlen:=hpar.len at' hat;obtain⟨c518,c519,_⟩:=h.cells
 have HALL:=zd (fun(i:Nat) (hi:i<Z.length) (u:World) (hu:Wk p Z (.slice (some ⟨bf,0,none⟩) Z.length cf) u)=>show(Instr.loadAt 103 (.pointer (some ⟨bf,i*4,none⟩))).run Tryz.prog u=.ok (.agg (Z[i]).vals.toArray) u from by
  obtain⟨b2,c2,e2,_,hc2⟩:=hu.stepAt hi
  injection e2 with e2 _ _
  injection e2 with e2
  injection e2 with e2
  subst e2
  exact run_loadAt_mid (P:=Tryz.prog) u bf (i*4) 103 (Z[i]).vals _ (fun j v hv=>hc2 j v hv) Tryz.underlying103 rfl (by rw [xzxg];rfl))
 have i1:decide ((at':Int)<(Z.length:Int))=true:=by simp;omega
 have HW:=zd h;have HP:=zd hpar;have HTX:=zd (And.intro h256 hlen);obtain⟨TX,hTX⟩:∃ TX,(Z[at']).tx=TX:=⟨_,rfl⟩;rw [hTX]at HTX;rw [hTX];have HTE:=zd hTX;have k0:=hcl 0 _ rfl;have k1:=hcl 1 _ rfl;have k2:=hcl 2 _ rfl;have k3:=hcl 3 _ rfl;rw [Nat.add_zero]at k0;clear h hpar h256 hlen hTX hcl;obtain⟨W1,hW1⟩:∃ W1,w.alloc (.cells (Z[at']).vals.toArray 103)=W1:=⟨_,rfl⟩
 have hb1:Below w.heap.size w W1:=by rw [<-hW1];exact(Below.refl _ _).alloc (Nat.le_refl _) _
 have hx1:BlkIs W1 w.heap.size 103 (Z[at']).vals.toArray:=by rw [<-hW1];exact BlkIs.new _ _ _
 have H1:=zd (And.intro hb1 hx1);have hW1':=hW1;unfold Zt.vals at hW1';simp only [List.toArray]at hW1';clear hW1 hb1 hx1
 go_enter Tryz.func58,Tryz.ntmps58
 go_wp2;clear c518 c519 k0 k1 k2 k3 hW1' i1
 go_loopw [5,6] (fun v5 v6 wr=>∃ (i b:Nat) (hi:i<Z.length) (L:List Nat),v6=.pointer (some ⟨b,0,none⟩)/\Hid (Below w.heap.size w wr/\BlkIs wr b 103 (Z[i]).vals.toArray/\BytR w.heap.size wr v5 L/\TX=(Z[i]).tx++L.reverse/\w.heap.size<=b)) (fun v5 _ _=>TX.length+1 - lenY v5)
 case atStart=>exact⟨at',w.heap.size,hat,[],rfl,zd ⟨H1.out.1,H1.out.2,World.ownsRow_nil _ _ _ _,by rw [HTE.out];simp,Nat.le_refl _⟩⟩
 case round=>
  obtain⟨i,b,hi,L,rfl,HH⟩:=hrel;obtain⟨wz,rfl⟩:∃ wz,wz=wr:=⟨_,rfl⟩;have hle:=xzxq HH.out.2.2.1;obtain⟨z,hz⟩:∃ z,Z[i]=z:=⟨_,rfl⟩;have hbx:=HH.out.2.1;rw [hz]at hbx;have k0:=hbx.cell 0;have k1:=hbx.cell 1;have k2:=hbx.cell 2;have k3:=hbx.cell 3;simp only [Zt.vals,zq]at k0 k1 k2 k3
  have hl1:L.length<=TX.length:=by
   have:=congrArg List.length HH.out.2.2.2.1;rw [List.length_append,List.length_reverse]at this;omega
  have HZ:=zd hz;have HL1:=zd (And.intro hl1 hle);have hPi:=(HP.out i hi).2;rw [hz]at hPi;clear hz hl1 hle
  rcases hPi with⟨hfr,htx⟩|⟨j,hji,hfr,htx⟩
  ·have e1:(z.fr != (-1:Int))=false:=by rw [hfr];rfl
   have e1b:decide (z.fr= -1)=true:=by rw [hfr];rfl
   have HT:=zd (show TX=L.reverse by rw [HH.out.2.2.2.1,HZ.out,htx,List.nil_append])
   have hL256:∀ x∈L,x<256:=fun x hx=>HTX.out.1 x (by rw [HT.out];exact List.mem_reverse.2 hx)
   have HRV:=zd (xzsg HH.out.2.2.1 hL256);clear hfr htx hbx hL256
   go_wp2_with(go_at_call 77;refine HRV.out.mono ?_;rintro e u1 ⟨rfl,hcv,hbu⟩;rw [<-HT.out]at hcv;have HB1:=zd (HH.out.1.trans hbu);clear hbu)
   go_ret;exact⟨rfl,HB1.out⟩
  ·have hj:j<Z.length:=by omega
   have e1:(z.fr != (-1:Int))=true:=by rw [hfr];simp
   have e1b:decide (z.fr= -1)=false:=by rw [hfr];simp
   obtain⟨v',W',hrun,hr1,hb1,hk1⟩:=HH.out.2.2.1.push2 HH.out.1.size z.by' (by have:=HTX.out.2;have:=HL1.out.1;omega);have hbx1:=hk1 _ _ _ hbx (by decide);have m0:=hbx1.cell 0;have m1:=hbx1.cell 1;have m2:=hbx1.cell 2;have m3:=hbx1.cell 3;simp only [Zt.vals,zq]at m0 m1 m2 m3;obtain⟨U,hU⟩:∃ U,W'.alloc (.cells z.vals.toArray 103)=U:=⟨_,rfl⟩
   have hbU:Below W'.heap.size W' U:=by rw [<-hU];exact(Below.refl _ _).alloc (Nat.le_refl _) _
   have hxU:BlkIs U W'.heap.size 103 z.vals.toArray:=by rw [<-hU];exact BlkIs.new _ _ _
   have hWU:Below w.heap.size w U:=(HH.out.1.trans hb1).trans (hbU.mono (by have:=HH.out.1.size;have:=hb1.size;omega));obtain⟨bx,hbxe⟩:∃ bx,W'.heap.size=bx:=⟨_,rfl⟩
   have HR:=zd (show Wk p Z (.slice (some ⟨bf,0,none⟩) Z.length cf) U/\BlkIs U bx 103 z.vals.toArray/\Below w.heap.size w U/\BytR w.heap.size U v' (L++[z.by'])from
    ⟨HW.out.step hWU,by rw [<-hbxe];exact hxU,hWU,hr1.step hbU⟩)
   have HBX:=zd (show w.heap.size<=bx by rw [<-hbxe];have:=HH.out.1.size;have:=hb1.size;omega)
   have HTN:=zd (show TX=(Z[j]).tx++(L++[z.by']).reverse by
    rw [HH.out.2.2.2.1,HZ.out,htx,List.reverse_append];simp)
   unfold Zt.vals at hU;simp only [List.toArray]at hU
   have HFR:=zd (fun(u:World) (hu:BlkIs u bx 103 z.vals.toArray)=>show u.cell? ⟨bx,2,none⟩=some (.int .i64 (j:Nat))from by
    have:=hu.cell 2;simp only [Zt.vals,zq]at this;rw [hfr]at this
    exact this)
   obtain⟨nv,hnv⟩:∃ nv,(Z[j]).vals.toArray=nv:=⟨_,rfl⟩;have HLZ:=zd (fun(u:World) (hu:Wk p Z (.slice (some ⟨bf,0,none⟩) Z.length cf) u)=>HALL.out j hj u hu);rw [hnv]at HLZ
   have hns:nv.size=4:=by rw [<-hnv];rfl
   have hn1:nv.all (·.oneCell')=true:=by rw [<-hnv];simp [Zt.vals,Value.oneCell']
   have HNV:=zd (And.intro hnv hn1)
   have i2:decide ((j:Int)<(Z.length:Int))=true:=by simp;omega
   rw [hfr]at k2 m2 hU;have HHB:=zd hji;clear hbx1 hbU hxU hWU hr1 hb1 hk1 hbx htx hnv hn1
   go_wp2_with(at_builtin;refine xzan rfl (.tmp 25) (.tmp 28) 71 71 rfl rfl rfl hrun ?_)
   refine xzaf 8 35 (fun u=>Hid (Wk p Z (.slice (some ⟨bf,0,none⟩) Z.length cf) u/\BlkIs u bx 103 z.vals.toArray/\Below w.heap.size w u/\BytR w.heap.size u v' (L++[z.by']))) (fun _ u u'=>Below u.heap.size u u')
    (fun i v u=>match i with
     |0=>v=.pointer (some ⟨p.g,0,none⟩)
     |1=>v=.pointer (some ⟨p.g,0,none⟩)
     |2=>v=.pointer (some ⟨p.g,519,none⟩)
     |3=>v=.slice (some ⟨bf,0,none⟩) Z.length cf
     |4=>v=.pointer (some ⟨bx,2,none⟩)
     |5=>v=.int .i64 (j:Nat)
     |6=>v=.pointer (some ⟨bf,j*4,none⟩)
     |7=>v=.agg nv
     |_=>True) (by kernel_rfl) (by kernel_rfl) rfl (zd ⟨HR.out.1.step (Below.refl _ _).drew,HR.out.2.1.drew,HR.out.2.2.1.drew,HR.out.2.2.2.step (Below.refl _ _).drew⟩) ?_ ?_ ?_ ?_
   ·intro i u u' hix hC hr
    exact zd ⟨hC.out.1.step hr,hC.out.2.1.step hr,hC.out.2.2.1.trans (hr.mono hC.out.2.2.1.size),hC.out.2.2.2.step hr⟩
   ·intro i j v u u' hix hj hne hv hr
    match i,hix,hne,hv with
    |0,_,_,hv=>exact hv
    |1,_,_,hv=>exact hv
    |2,_,_,hv=>exact hv
    |3,_,_,hv=>exact hv
    |4,_,_,hv=>exact hv
    |5,_,_,hv=>exact hv
    |6,_,_,hv=>exact hv
    |7,_,_,hv=>exact hv
    |i+8,hix,_,_=>omega
   ·intro i hix vs u hC hw oq ho
    match i,hix,hw,ho with
    |0,_,hw,ho=>
     simp only [zq,zh]at ho;subst ho;refine⟨rfl,?_⟩;clear hw;simp only [xzaa,tmpsTo];go_simp;exact xzab (Below.refl _ _) rfl
    |1,_,hw,ho=>
     have e0:vs 0=.pointer (some ⟨p.g,0,none⟩):=hw 0 (by omega) (by kernel_rfl);simp only [zq,zh]at ho;subst ho;refine⟨rfl,?_⟩;clear hw;simp only [xzaa,tmpsTo,putT,zr];rw [e0];clear e0;go_simp;exact xzab (Below.refl _ _) rfl
    |2,_,hw,ho=>
     have e1:vs 1=.pointer (some ⟨p.g,0,none⟩):=hw 1 (by omega) (by kernel_rfl);simp only [zq,zh]at ho;subst ho;refine⟨rfl,?_⟩;clear hw;simp only [xzaa,tmpsTo,putT,zr];rw [e1];clear e1;go_simp;exact xzab (Below.refl _ _) rfl
    |3,_,hw,ho=>
     have e2:vs 2=.pointer (some ⟨p.g,519,none⟩):=hw 2 (by omega) (by kernel_rfl);simp only [zq,zh]at ho;subst ho;refine⟨rfl,?_⟩;have k519:=(hC.out.1).cells.2.1;clear hw;simp only [xzaa,tmpsTo,putT,zr];rw [e2];clear e2;go_simp;exact xzab (Below.refl _ _) rfl
    |4,_,hw,ho=>
     simp only [zq,zh]at ho;subst ho;refine⟨rfl,?_⟩;clear hw;simp only [xzaa,tmpsTo,putT,zr];go_simp;exact xzab (Below.refl _ _) rfl
    |5,_,hw,ho=>
     have e4:vs 4=.pointer (some ⟨bx,2,none⟩):=hw 4 (by omega) (by kernel_rfl);simp only [zq,zh]at ho;subst ho;refine⟨rfl,?_⟩;have kc:=HFR.out u hC.out.2.1;clear hw;simp only [xzaa,tmpsTo,putT,zr];rw [e4];clear e4;go_simp;exact xzab (Below.refl _ _) rfl
    |6,_,hw,ho=>
     have e3:vs 3=.slice (some ⟨bf,0,none⟩) Z.length cf:=hw 3 (by omega) (by kernel_rfl);have e5:vs 5=.int .i64 (j:Nat):=hw 5 (by omega) (by kernel_rfl);simp only [zq,zh]at ho;subst ho;refine⟨rfl,?_⟩;clear hw;simp only [xzaa,tmpsTo,putT,zr];rw [e3,e5];clear e3 e5;go_simp;exact xzab (Below.refl _ _) rfl
    |7,_,hw,ho=>
     have e6:vs 6=.pointer (some ⟨bf,j*4,none⟩):=hw 6 (by omega) (by kernel_rfl);simp only [zq,zh]at ho;subst ho;refine⟨rfl,?_⟩;have kld:=HLZ.out u hC.out.1;clear hw;simp only [xzaa,tmpsTo,putT,zr];rw [e6];clear e6;rw [xzah 103 (.tmp 23) _ rfl rfl kld];exact xzab (Below.refl _ _) rfl
    |i+8,hix,_,_=>omega
   intro vs1 u hC hV;have q7:vs1 7=.agg nv:=hV 7 (by omega);clear hV;simp only [xzaa,tmpsTo,putT,zr,List.drop_succ_cons,List.drop_zero];rw [q7];clear q7;generalize vs1 0=g0;generalize vs1 1=g1;generalize vs1 2=g2;generalize vs1 3=g3;generalize vs1 4=g4;generalize vs1 5=g5;generalize vs1 6=g6;obtain⟨W9,hsc,hb9,hw9⟩:=xzbe (P:=Tryz.prog) hC.out.2.1 (new:=nv) (by rw [hns];rfl) HNV.out.2
   have HFIN:=zd (show Below w.heap.size w W9/\BlkIs W9 bx 103 nv/\BytR w.heap.size W9 v' (L++[z.by'])from
    ⟨hw9.2.1 _ _ HBX.out hC.out.2.2.1,hb9,xzau hC.out.2.2.2 fun k hk=>hw9.1 k (by
     obtain⟨cur,hc⟩:=xzcq hC.out.2.2.2 hk
     exact xzil hc hC.out.2.1 (by decide))⟩)
   clear hC hb9 hw9 k0 k1 k2 k3 m0 m1 m2 m3 hU hrun;go_wp2;have hly:=xzxq HFIN.out.2.2;rw [List.length_append,List.length_singleton]at hly;have h1:=HL1.out;have h2:=congrArg List.length HTN.out;rw [List.length_append,List.length_reverse,List.length_append,List.length_singleton]at h2;exact⟨⟨j,bx,hj,L++[z.by'],rfl,zd ⟨HFIN.out.1,by rw [HNV.out.1];exact HFIN.out.2.1,HFIN.out.2.2,HTN.out,HBX.out⟩⟩,by omega⟩
end
section
open Go.RowKit
attribute [local irreducible] FreeW textFrame
def toldV:Option (List Nat)->Value
 |some l=>.tuple #[.string (txB l),.bool true]
 |none=>.tuple #[.string ⟨#[]⟩,.bool false]
def FtIs (A B:Df)(n:Nat)(pr:SS->Bool)(K:World->Prop)(Kt:SS->World->Prop)(o:Option Nat)(w:World):Ending->World->Prop:=fun e w'=>
 e=.returned (toldV ((tellQ pr (allF A B)).map Prod.snd))/\FrA n o w w'/\(tellQ pr (allF A B)=none->K w')/\(∀ x,tellQ pr (allF A B)=some x->Kt x.1 w')
theorem xzee {n:Nat}{W W':World}(h:Below n W W')(o:Option Nat):FrA n o W W':=⟨h.size,fun k hk _=>h.block k hk,fun _ _ hB _ hb=>hb.trans (h.mono hB)⟩
theorem xzok {n n':Nat}{o:Option Nat}{W W':World}(h:FrA n' o W W')(hn:n<=n'):FrA n o W W':=⟨h.size,fun k hk ho=>h.blk k (by omega) ho,fun B W0 hB ho hb=>h.below B W0 (by omega) ho hb⟩
set_option maxRecDepth 20000 in
set_option maxHeartbeats 8000000 in
theorem xzgg (A B:Df)(va vb:Value)(w0 w:World)(ha0:DfAt w0 A va)(hb0:DfAt w0 B vb)(hw0:Below w0.heap.size w0 w)(hA:OkD A)(hB:OkD B)(gf:Nat)(lb:Array Value)(pr:SS->Bool)(K:World->Prop)(Kt:SS->World->Prop)(o:Option Nat)
 (ask:AskF A B w0 w.heap.size gf lb pr K Kt o)(hkt:∀ s u u',Below w.heap.size u u'->Kt s u->Kt s u')(hK:K w):
 Calls Tryz.prog 37 #[va,vb,.func (.func gf) #[] lb] w (FtIs A B w.heap.size pr K Kt o w):=by
 have ha:=ha0.step hw0;have hb:=hb0.step hw0;obtain⟨An,cn,At,ct,rfl⟩:=xzal ha;obtain⟨Bn,dn,Bt,dt,rfl⟩:=xzal hb;obtain⟨W1,hbx,hsz,hb1,hx1⟩:=xzat A.of A.n (.slice An A.next.length cn) (.slice At A.tag.length ct) w;obtain⟨W2,hbx2,hsz2,hb2,hx2⟩:=xzat B.of B.n (.slice Bn B.next.length dn) (.slice Bt B.tag.length dt) W1
 have h2s:W2.heap.size=w.heap.size+2:=by omega
 have hd1:=(DfB.of hx1).step hb2;have hd2:=DfB.of hx2;rw [hsz]at hd2;have hb02:Below w.heap.size w W2:=hb1.trans (hb2.mono (by omega));have HB:=zd (And.intro hb02 (And.intro hd1 (And.intro hd2 h2s)));have HNW:=zd (xzsb A B _ _ w0 W2 ha0 hb0 (hw0.trans (hb02.mono hw0.size)) hA.cls hB.cls);obtain⟨da,hda⟩:∃ dc,dfC A.of A.n (.slice An A.next.length cn) (.slice At A.tag.length ct)=dc:=⟨_,rfl⟩;obtain⟨db,hdb⟩:∃ dc,dfC B.of B.n (.slice Bn B.next.length dn) (.slice Bt B.tag.length dt)=dc:=⟨_,rfl⟩;rw [hda]at hbx HNW;rw [hdb]at hbx2 HNW
 have hdsa:da.size=259:=by rw [<-hda];exact xzac _ _ _ _
 have hdsb:db.size=259:=by rw [<-hdb];exact xzac _ _ _ _
 rw [hda,hdb];have HDC:=zd (And.intro hda hdb);have HASK:=zd (And.intro ask (And.intro hkt (And.intro hK (And.intro hA hB))));have HLEN:=zd (show ∀ vf Z p S m W,WkX p S m Z vf vf W->True from fun _ _ _ _ _ _ _=>trivial);have HBD:=zd (xzkx hA hB);clear hb1 hx1 hd1 hda hb2 hx2 hd2 hdb ha hb h2s ha0 hb0 hw0 hb02 ask hkt hK hA hB HLEN
 cases htq:tellQ pr (allF A B)with
 |none=>
  have HTQ:=zd htq;clear htq
  go_enter Tryz.func37,Tryz.ntmps37
  go_wp2_with(first
   |((with_reducible refine xzag rfl (.tmp 3) ?_ ?_ HB.out.2.1 ?_);exact rfl;exact rfl;rw [HDC.out.1])
   |((with_reducible refine xzag rfl (.tmp 4) ?_ ?_ HB.out.2.2.1 ?_);exact rfl;exact rfl;rw [HDC.out.2])
   |(go_at_call 23
     refine HNW.out.mono ?_;rintro e u1 ⟨a1,a2,b1,b2,vy,M,g,Z,vf,rfl,hfz,hpar,hwk,hbu⟩;obtain⟨p,hp⟩:∃ p:WP,(⟨A,B,a1,a2,b1,b2,vy,M,g,W2.heap.size+2,w0⟩:WP)=p:=⟨_,rfl⟩
     have hpe:p.A=A/\p.B=B/\p.g=g/\p.n1=W2.heap.size+2/\p.w0=w0:=by rw [<-hp];exact⟨rfl,rfl,rfl,rfl,rfl⟩
     rw [hp]at hwk;have hbw:Below w.heap.size w u1:=HB.out.1.trans (hbu.mono HB.out.1.size)
     have hn1:w.heap.size<=p.n1:=by rw [hpe.2.2.2.1,HB.out.2.2.2];omega
     have hfi:=xzqs p Z vf u1 hwk (by rw [hpe.1,hpe.2.1];exact hfz) hpar (by rw [hpe.1];exact HASK.out.2.2.2.1) (by rw [hpe.2.1];exact HASK.out.2.2.2.2) gf lb pr K Kt o (by
      have:=HASK.out.1.up hn1;unfold AskIs;rw [hpe.1,hpe.2.1,hpe.2.2.2.2]
      exact this) (HASK.out.1.keep _ _ hbw HASK.out.2.2.1)
     rw [hpe.2.2.1]at hfi;have HFI:=zd hfi;have HPE:=zd (And.intro hpe (And.intro hbw hn1))
     clear hp hpe hwk hbw hn1 hfi hfz hpar hbu)
   |(go_at_call 24
     refine HFI.out.mono ?_;rintro e u2 ⟨Z2,vf2,at',rfl,hwk2,hpar2,hzl2,hfr2,hor⟩;rw [HPE.out.1.1,HPE.out.1.2.1]at hor hzl2;have hr:=hor.resolve_left (fun⟨k,hk,_,h,_⟩=>by rw [HTQ.out]at h;cases h);obtain⟨rfl,_,_,hkk⟩:=hr;have H2:=zd (show FrA w.heap.size o w u2/\K u2 from⟨(xzee HPE.out.2.1 o).trans (xzok hfr2 HPE.out.2.2),hkk⟩)
     clear hwk2 hpar2 hzl2 hfr2 hor hkk))
  go_ret2
  exact⟨by rw [HTQ.out];rfl,H2.out.1,fun _=>H2.out.2,fun x h=>(by rw [HTQ.out]at h;cases h)⟩
 |some x=>
  have HTQ:=zd htq;clear htq
  go_enter Tryz.func37,Tryz.ntmps37
  go_wp2_with(first
   |((with_reducible refine xzag rfl (.tmp 3) ?_ ?_ HB.out.2.1 ?_);exact rfl;exact rfl;rw [HDC.out.1])
   |((with_reducible refine xzag rfl (.tmp 4) ?_ ?_ HB.out.2.2.1 ?_);exact rfl;exact rfl;rw [HDC.out.2])
   |(go_at_call 23
     refine HNW.out.mono ?_;rintro e u1 ⟨a1,a2,b1,b2,vy,M,g,Z,vf,rfl,hfz,hpar,hwk,hbu⟩;obtain⟨p,hp⟩:∃ p:WP,(⟨A,B,a1,a2,b1,b2,vy,M,g,W2.heap.size+2,w0⟩:WP)=p:=⟨_,rfl⟩
     have hpe:p.A=A/\p.B=B/\p.g=g/\p.n1=W2.heap.size+2/\p.w0=w0:=by rw [<-hp];exact⟨rfl,rfl,rfl,rfl,rfl⟩
     rw [hp]at hwk;have hbw:Below w.heap.size w u1:=HB.out.1.trans (hbu.mono HB.out.1.size)
     have hn1:w.heap.size<=p.n1:=by rw [hpe.2.2.2.1,HB.out.2.2.2];omega
     have hfi:=xzqs p Z vf u1 hwk (by rw [hpe.1,hpe.2.1];exact hfz) hpar (by rw [hpe.1];exact HASK.out.2.2.2.1) (by rw [hpe.2.1];exact HASK.out.2.2.2.2) gf lb pr K Kt o (by
      have:=HASK.out.1.up hn1;unfold AskIs;rw [hpe.1,hpe.2.1,hpe.2.2.2.2]
      exact this) (HASK.out.1.keep _ _ hbw HASK.out.2.2.1)
     rw [hpe.2.2.1]at hfi;have HFI:=zd hfi;have HPE:=zd (And.intro hpe (And.intro hbw hn1))
     clear hp hpe hwk hbw hn1 hfi hfz hpar hbu)
   |(go_at_call 24
     refine HFI.out.mono ?_;rintro e u2 ⟨Z2,vf2,at',rfl,hwk2,hpar2,hzl2,hfr2,hor⟩;rw [HPE.out.1.1,HPE.out.1.2.1]at hor hzl2;have hr:=hor.resolve_right (fun⟨_,h,_⟩=>by rw [HTQ.out]at h;cases h);obtain⟨k,hk,rfl,hte,hkk⟩:=hr;rw [HTQ.out]at hte
     injection hte with hte
     have hte2:(Z2[k]).tx=x.2:=by rw [hte]
     have htx:=xzoj p Z2 vf2 u2 hwk2 hpar2 k hk (by have:=HBD.out;omega);rw [hte2,HPE.out.1.2.2.1]at htx;have HTX:=zd htx
     have i3:decide ((k:Int)= -1)=false:=by rw [decide_eq_false_iff_not];omega
     have i3b:((k:Int)== -1)=false:=by rw [beq_eq_false_iff_ne];omega
     have H2:=zd (show FrA w.heap.size o w u2/\Kt x.1 u2/\w.heap.size<=u2.heap.size from⟨(xzee HPE.out.2.1 o).trans (xzok hfr2 HPE.out.2.2),by have:=hkk;rwa [show(Z2[k]).s=x.1 by rw [hte]]at this,Nat.le_trans HPE.out.2.1.size hfr2.size⟩)
     clear hwk2 hpar2 hzl2 hfr2 hor hkk hte hte2 htx)
   |(go_at_call 58;refine HTX.out.mono ?_;rintro e u3 ⟨rfl,hbu3⟩;have H3:=zd hbu3;clear hbu3))
  go_ret2
  exact⟨by rw [HTQ.out];rfl,H2.out.1.trans (FrA.tn (Tn.below H3.out) H2.out.2.2),fun h=>(by rw [HTQ.out]at h;cases h),fun y h=>(by
   rw [HTQ.out]at h
   injection h with h
   subst h
   exact HASK.out.2.1 _ _ _ (H3.out.mono H2.out.2.2) H2.out.2.1)⟩
theorem xzcg (r:Option (List Nat)):∃ sv bv,toldV r=.tuple #[.string sv,.bool bv]:=by
 cases r with
 |none=>exact⟨_,_,rfl⟩
 |some l=>exact⟨_,_,rfl⟩
set_option maxRecDepth 20000 in
set_option maxHeartbeats 8000000 in
theorem xzsh (A B:Df)(va vb:Value)(w:World)(ha:DfAt w A va)(hb:DfAt w B vb)(hfa:∀ b,b<256->A.of b<256)(hfb:∀ b,b<256->B.of b<256):
 Calls Tryz.prog 22 #[va,vb] w fun e w'=>e=.returned (.bool (A.may&&B.may))/\Below w.heap.size w w':=by
 have HAA:=zd (And.intro ha hb);obtain⟨An,cn,At,ct,rfl⟩:=xzal ha;obtain⟨Bn,dn,Bt,dt,rfl⟩:=xzal hb;obtain⟨W1,hbx,hsz,hb1,hx1⟩:=xzat A.of A.n (.slice An A.next.length cn) (.slice At A.tag.length ct) w;obtain⟨W2,hbx2,hsz2,hb2,hx2⟩:=xzat B.of B.n (.slice Bn B.next.length dn) (.slice Bt B.tag.length dt) W1
 have h2s:W2.heap.size=w.heap.size+2:=by omega
 have hd1:=(DfB.of hx1).step hb2;have hd2:=DfB.of hx2;rw [hsz]at hd2;have HB:=zd (And.intro (hb1.trans (hb2.mono (by omega))) (And.intro hd1 hd2));have HMA:=zd (fun(u:World) (hu:Below w.heap.size w u)=>xzns A _ u (HAA.out.1.step hu) hfa);have HMB:=zd (fun(u:World) (hu:Below w.heap.size w u)=>xzns B _ u (HAA.out.2.step hu) hfb);obtain⟨da,hda⟩:∃ dc,dfC A.of A.n (.slice An A.next.length cn) (.slice At A.tag.length ct)=dc:=⟨_,rfl⟩;obtain⟨db,hdb⟩:∃ dc,dfC B.of B.n (.slice Bn B.next.length dn) (.slice Bt B.tag.length dt)=dc:=⟨_,rfl⟩;rw [hda]at hbx HMA;rw [hdb]at hbx2 HMB
 have hdsa:da.size=259:=by rw [<-hda];exact xzac _ _ _ _
 have hdsb:db.size=259:=by rw [<-hdb];exact xzac _ _ _ _
 rw [hda,hdb];have HDC:=zd (And.intro hda hdb);clear hb1 hx1 hd1 hda hb2 hx2 hd2 hdb ha hb h2s HAA hfa hfb;obtain⟨bm,hbm⟩:∃ bm,B.may=bm:=⟨_,rfl⟩;rw [hbm]at HMB ⊢
 cases ham:A.may with
 |false=>
  rw [ham]at HMA;clear ham hbm
  go_enter Tryz.func22,Tryz.ntmps22
  go_wp2_with(first
   |((with_reducible refine xzag rfl (.tmp 2) ?_ ?_ HB.out.2.1 ?_);exact rfl;exact rfl;rw [HDC.out.1])
   |(go_at_call 47;refine(HMA.out _ HB.out.1).mono ?_;rintro e u1 ⟨rfl,hbu⟩;have H1:=zd (HB.out.1.trans (hbu.mono HB.out.1.size));clear hbu))
  go_ret;exact⟨rfl,H1.out⟩
 |true=>
  rw [ham]at HMA;clear ham hbm
  go_enter Tryz.func22,Tryz.ntmps22
  go_wp2_with(first
   |((with_reducible refine xzag rfl (.tmp 2) ?_ ?_ HB.out.2.1 ?_);exact rfl;exact rfl;rw [HDC.out.1])
   |(go_at_call 47;refine(HMA.out _ HB.out.1).mono ?_;rintro e u1 ⟨rfl,hbu⟩;have H1:=zd (And.intro (HB.out.1.trans (hbu.mono HB.out.1.size)) (HB.out.2.2.step hbu));clear HMA hbu)
   |((with_reducible refine xzbt (.tmp 3) ?_ ?_ H1.out.2 ?_ ?_);exact rfl;exact rfl;kernel_rfl;rw [HDC.out.2])
   |(go_at_call 47;refine(HMB.out _ H1.out.1).mono ?_;rintro e u2 ⟨rfl,hbu⟩;have H2:=zd (H1.out.1.trans (hbu.mono H1.out.1.size));clear hbu))
  go_ret;exact⟨by cases bm<;>rfl,H2.out⟩
set_option maxRecDepth 20000 in
set_option maxHeartbeats 8000000 in
theorem xzsi (A B:Df)(q:Int->Int->Bool)(gf:Nat)(heg:∀ args w,(callFunc gf args).run Tryz.prog w=.ok (.enter gf args) w)(hq:∀ (x y:Int) (u:World),Calls Tryz.prog gf #[.int .i64 x,.int .i64 y] u fun e u'=>e=.returned (.bool (q x y))/\Below u.heap.size u u')
 (An:Option Addr)(cn:Nat)(At:Option Addr)(ct:Nat)(Bn:Option Addr)(dn:Nat)(Bt:Option Addr)(dt:Nat)(b5 ba bb:Nat)(w:World)(s:SS)(hs1:A.InS s.1)(hs2:B.InS s.2)(hta:A.tag.length=A.next.length)(htb:B.tag.length=B.next.length)
 (hda0:DfAt w A (.agg (dfC A.of A.n (.slice An A.next.length cn) (.slice At A.tag.length ct))))(hdb0:DfAt w B (.agg (dfC B.of B.n (.slice Bn B.next.length dn) (.slice Bt B.tag.length dt))))
 (hba:DfB w ba A.of A.n (.slice An A.next.length cn) (.slice At A.tag.length ct))(hbb:DfB w bb B.of B.n (.slice Bn B.next.length dn) (.slice Bt B.tag.length dt))(hb5:BlkIs w b5 73 #[.func (.func gf) #[] #[]]):
 Calls Tryz.prog 54 (#[.agg #[.int .i16 s.1,.int .i16 s.2]]++ #[.pointer (some ⟨b5,0,none⟩),.pointer (some ⟨ba,0,none⟩),.pointer (some ⟨bb,0,none⟩)]) w fun e w'=>e=.returned (.bool (q (A.tg s.1) (B.tg s.2)))/\Below w.heap.size w w':=by
 obtain⟨wz,hwz⟩:∃ wz,w.alloc (.cells #[.int .i16 s.1,.int .i16 s.2] 65)=wz:=⟨_,rfl⟩
 have hb1:Below w.heap.size w wz:=by rw [<-hwz];exact(Below.refl _ _).alloc (Nat.le_refl _) _
 have hx1:BlkIs wz w.heap.size 65 #[.int .i16 s.1,.int .i16 s.2]:=by rw [<-hwz];exact BlkIs.new _ _ _
 have HB:=zd hb1;have HQ:=zd hq;have HLA:=zd (fun(u:World) (hu:DfB u ba A.of A.n (.slice An A.next.length cn) (.slice At A.tag.length ct))=>loadDf hu);have HLB:=zd (fun(u:World) (hu:DfB u bb B.of B.n (.slice Bn B.next.length dn) (.slice Bt B.tag.length dt))=>loadDf hu);have HK:=zd (fun(u:World) (hu:Below wz.heap.size wz u)=>And.intro ((hba.step hb1).step hu) (And.intro ((hbb.step hb1).step hu) (And.intro ((hb5.step hb1).step hu) (hx1.step hu))));have HTA:=zd (fun(u:World) (hu:Below wz.heap.size wz u)=>xzin A s.1 _ u ((hda0.step hb1).step hu) hs1 hta);have HTB:=zd (fun(u:World) (hu:Below wz.heap.size wz u)=>xzin B s.2 _ u ((hdb0.step hb1).step hu) hs2 htb);obtain⟨da,hda⟩:∃ dc,dfC A.of A.n (.slice An A.next.length cn) (.slice At A.tag.length ct)=dc:=⟨_,rfl⟩;obtain⟨db,hdb⟩:∃ dc,dfC B.of B.n (.slice Bn B.next.length dn) (.slice Bt B.tag.length dt)=dc:=⟨_,rfl⟩;obtain⟨bs,hbs⟩:∃ bs,w.heap.size=bs:=⟨_,rfl⟩;rw [hda]at HLA HTA;rw [hdb]at HLB HTB;rw [hbs]at HK;have HBS:=zd hbs;clear hb1 hx1 hq hda0 hdb0 hba hbb hb5 hs1 hs2 hta htb hda hdb
 go_enter Tryz.func54,Tryz.ntmps54
 go_wp2_with fail
 refine xzaf 10 16 (fun u=>Hid (Below wz.heap.size wz u)) (fun _ u u'=>Below u.heap.size u u')
  (fun i v u=>match i with
   |0=>v=.func (.func gf) #[] #[]
   |1=>v=.agg da
   |2=>v=.pointer (some ⟨bs,0,none⟩)
   |3=>v=.int .i16 s.1
   |4=>v=.int .i64 (A.tg s.1)
   |5=>v=.agg db
   |6=>v=.pointer (some ⟨bs,1,none⟩)
   |7=>v=.int .i16 s.2
   |8=>v=.int .i64 (B.tg s.2)
   |9=>v=.bool (q (A.tg s.1) (B.tg s.2))
   |_=>True) (by kernel_rfl) (by kernel_rfl) rfl (zd (Below.refl _ _).drew) ?_ ?_ ?_ ?_
 ·intro i u u' hix hC hr
  exact zd (hC.out.trans (hr.mono hC.out.size))
 ·intro i j v u u' hix hj hne hv hr
  match i,hix,hne,hv with
  |0,_,_,hv=>exact hv
  |1,_,_,hv=>exact hv
  |2,_,_,hv=>exact hv
  |3,_,_,hv=>exact hv
  |4,_,_,hv=>exact hv
  |5,_,_,hv=>exact hv
  |6,_,_,hv=>exact hv
  |7,_,_,hv=>exact hv
  |8,_,_,hv=>exact hv
  |9,_,_,hv=>exact hv
  |i+10,hix,_,_=>omega
 ·intro i hix vs u hC hw oq ho
  match i,hix,hw,ho with
  |0,_,hw,ho=>
   simp only [zq,zh]at ho;subst ho;refine⟨rfl,?_⟩;have kf:=(HK.out u hC.out).2.2.1.cell 0;clear hw;simp only [xzaa,tmpsTo];go_simp;exact xzab (Below.refl _ _) rfl
  |1,_,hw,ho=>
   simp only [zq,zh]at ho;subst ho;refine⟨rfl,?_⟩;clear hw;simp only [xzaa,tmpsTo,putT,zr];rw [xzah 35 (.tmp 2) _ rfl rfl (HLA.out u (HK.out u hC.out).1)];exact xzab (Below.refl _ _) rfl
  |2,_,hw,ho=>
   simp only [zq,zh]at ho;subst ho;refine⟨rfl,?_⟩;clear hw;simp only [xzaa,tmpsTo,putT,zr];go_simp;exact xzab (Below.refl _ _) rfl
  |3,_,hw,ho=>
   have e2:vs 2=.pointer (some ⟨bs,0,none⟩):=hw 2 (by omega) (by kernel_rfl);simp only [zq,zh]at ho;subst ho;refine⟨rfl,?_⟩;have kc:=(HK.out u hC.out).2.2.2.cell 0;clear hw;simp only [xzaa,tmpsTo,putT,zr];rw [e2];clear e2;go_simp;exact xzab (Below.refl _ _) rfl
  |4,_,hw,ho=>
   have e1:vs 1=.agg da:=hw 1 (by omega) (by kernel_rfl);have e3:vs 3=.int .i16 s.1:=hw 3 (by omega) (by kernel_rfl);simp only [zq,zh]at ho;subst ho;refine⟨rfl,?_⟩;clear hw;simp only [xzaa,tmpsTo,putT,zr];rw [e1,e3];clear e1 e3;go_simp;refine xzak ((HTA.out u hC.out).mono ?_);rintro e u' ⟨rfl,hbu⟩;exact⟨_,rfl,hbu,rfl⟩
  |5,_,hw,ho=>
   simp only [zq,zh]at ho;subst ho;refine⟨rfl,?_⟩;clear hw;simp only [xzaa,tmpsTo,putT,zr];rw [xzah 35 (.tmp 3) _ rfl rfl (HLB.out u (HK.out u hC.out).2.1)];exact xzab (Below.refl _ _) rfl
  |6,_,hw,ho=>
   simp only [zq,zh]at ho;subst ho;refine⟨rfl,?_⟩;clear hw;simp only [xzaa,tmpsTo,putT,zr];go_simp;exact xzab (Below.refl _ _) rfl
  |7,_,hw,ho=>
   have e6:vs 6=.pointer (some ⟨bs,1,none⟩):=hw 6 (by omega) (by kernel_rfl);simp only [zq,zh]at ho;subst ho;refine⟨rfl,?_⟩;have kc:=(HK.out u hC.out).2.2.2.cell 1;clear hw;simp only [xzaa,tmpsTo,putT,zr];rw [e6];clear e6;go_simp;exact xzab (Below.refl _ _) rfl
  |8,_,hw,ho=>
   have e5:vs 5=.agg db:=hw 5 (by omega) (by kernel_rfl);have e7:vs 7=.int .i16 s.2:=hw 7 (by omega) (by kernel_rfl);simp only [zq,zh]at ho;subst ho;refine⟨rfl,?_⟩;clear hw;simp only [xzaa,tmpsTo,putT,zr];rw [e5,e7];clear e5 e7;go_simp;refine xzak ((HTB.out u hC.out).mono ?_);rintro e u' ⟨rfl,hbu⟩;exact⟨_,rfl,hbu,rfl⟩
  |9,_,hw,ho=>
   have e0:vs 0=.func (.func gf) #[] #[]:=hw 0 (by omega) (by kernel_rfl);have e4:vs 4=.int .i64 (A.tg s.1):=hw 4 (by omega) (by kernel_rfl);have e8:vs 8=.int .i64 (B.tg s.2):=hw 8 (by omega) (by kernel_rfl);simp only [zq,zh]at ho;subst ho;refine⟨rfl,?_⟩;clear hw;simp only [xzaa,tmpsTo,putT,zr];rw [e0,e4,e8];clear e0 e4 e8;go_simp;refine xzak ((HQ.out _ _ u).mono ?_);rintro e u' ⟨rfl,hbu⟩;exact⟨_,rfl,hbu,rfl⟩
  |i+10,hix,_,_=>omega
 intro vs1 u hC hV;have q9:vs1 9=.bool (q (A.tg s.1) (B.tg s.2)):=hV 9 (by omega);clear hV;simp only [xzaa,tmpsTo,putT,zr,List.drop_succ_cons,List.drop_zero];rw [q9];clear q9;generalize vs1 0=g0;generalize vs1 1=g1;generalize vs1 2=g2;generalize vs1 3=g3;generalize vs1 4=g4;generalize vs1 5=g5;generalize vs1 6=g6;generalize vs1 7=g7;generalize vs1 8=g8;have HFIN:=zd (HB.out.trans (hC.out.mono HB.out.size));clear hC;go_wp2;go_ret;exact⟨rfl,HFIN.out⟩
def TgIs (A B:Df)(q:Int->Int->Bool)(w:World):Ending->World->Prop:=fun e w'=>e=.returned (toldV (if A.may&&B.may then(tellQ (fun s=>q (A.tg s.1) (B.tg s.2)) (allF A B)).map Prod.snd else none))/\Below w.heap.size w w'
set_option maxRecDepth 20000 in
set_option maxHeartbeats 8000000 in
theorem xzcv (A B:Df)(q:Int->Int->Bool)(gf:Nat)(heg:∀ args w,(callFunc gf args).run Tryz.prog w=.ok (.enter gf args) w)(hq:∀ (x y:Int) (u:World),Calls Tryz.prog gf #[.int .i64 x,.int .i64 y] u fun e u'=>e=.returned (.bool (q x y))/\Below u.heap.size u u')
 (va vb:Value)(w:World)(ha:DfAt w A va)(hb:DfAt w B vb)(hfa:∀ b,b<256->A.of b<256)(hfb:∀ b,b<256->B.of b<256):
 Calls Tryz.prog 30 #[va,vb,.func (.func gf) #[] #[]] w (TgIs A B q w):=by
 have HAA:=zd (And.intro ha hb);obtain⟨An,cn,At,ct,rfl⟩:=xzal ha;obtain⟨Bn,dn,Bt,dt,rfl⟩:=xzal hb;obtain⟨W1,hbx,hsz,hb1,hx1⟩:=xzat A.of A.n (.slice An A.next.length cn) (.slice At A.tag.length ct) w;obtain⟨W2,hbx2,hsz2,hb2,hx2⟩:=xzat B.of B.n (.slice Bn B.next.length dn) (.slice Bt B.tag.length dt) W1
 have h2s:W2.heap.size=w.heap.size+2:=by omega
 have hd1:=(DfB.of hx1).step hb2;have hd2:=DfB.of hx2;rw [hsz]at hd2;obtain⟨W3,hW3⟩:∃ W3,W2.alloc (.cells #[.func (.func gf) #[] #[]] 73)=W3:=⟨_,rfl⟩
 have hb3:Below W2.heap.size W2 W3:=by rw [<-hW3];exact(Below.refl _ _).alloc (Nat.le_refl _) _
 have hx3:BlkIs W3 (w.heap.size+2) 73 #[.func (.func gf) #[] #[]]:=by rw [<-hW3,<-h2s];exact BlkIs.new _ _ _
 have h3s:W3.heap.size=w.heap.size+3:=by rw [<-hW3];simp [h2s]
 have HB:=zd (And.intro ((hb1.trans (hb2.mono (by omega))).trans (hb3.mono (by omega))) (And.intro (hd1.step hb3) (And.intro (hd2.step hb3) (And.intro hx3 h3s))));have HMY:=zd (fun(u:World) (hu:Below w.heap.size w u)=>xzsh A B _ _ u (HAA.out.1.step hu) (HAA.out.2.step hu) hfa hfb)
 have HFT:=zd (fun(hm:MayD A/\MayD B) (u1:World) (hu1:Below W3.heap.size W3 u1)=>xzgg A B _ _ w u1 HAA.out.1 HAA.out.2 (HB.out.1.trans (hu1.mono (by rw [h3s];omega))) (hm.1.okD hfa) (hm.2.okD hfb) 54 #[.pointer (some ⟨w.heap.size+2,0,none⟩),.pointer (some ⟨w.heap.size,0,none⟩),.pointer (some ⟨w.heap.size+1,0,none⟩)]
  (fun s=>q (A.tg s.1) (B.tg s.2)) (fun u=>Below W3.heap.size W3 u) (fun _ _=>True) none
  ⟨fun args w=>by kernel_rfl,fun k e=>(by cases e),fun s u h1 h2 h3 h4=>(xzsi A B q gf heg hq An cn At ct Bn dn Bt dt (w.heap.size+2) w.heap.size (w.heap.size+1) u s h1 h2 hm.1.tags hm.2.tags (HAA.out.1.step h3) (HAA.out.2.step h3) (HB.out.2.1.step h4) (HB.out.2.2.1.step h4) (HB.out.2.2.2.1.step h4)).mono fun e u' ⟨he,hbu⟩=>⟨he,Tn.below hbu,fun _=>h4.trans (hbu.mono h4.size),fun _=>trivial⟩,
   fun u u' hb hk=>hk.trans (hb.mono hu1.size)⟩ (fun _ _ _ _ h=>h) hu1)
 obtain⟨da,hda⟩:∃ dc,dfC A.of A.n (.slice An A.next.length cn) (.slice At A.tag.length ct)=dc:=⟨_,rfl⟩;obtain⟨db,hdb⟩:∃ dc,dfC B.of B.n (.slice Bn B.next.length dn) (.slice Bt B.tag.length dt)=dc:=⟨_,rfl⟩;rw [hda]at hbx HMY HFT;rw [hdb]at hbx2 HMY HFT
 have hdsa:da.size=259:=by rw [<-hda];exact xzac _ _ _ _
 have hdsb:db.size=259:=by rw [<-hdb];exact xzac _ _ _ _
 rw [hda,hdb];have HDC:=zd (And.intro hda hdb)
 have HMD:=zd (fun(h:(A.may&&B.may)=true)=>show MayD A/\MayD B from by
  rw [Bool.and_eq_true]at h
  exact⟨xzlz h.1,xzlz h.2⟩)
 clear hb1 hx1 hd1 hda hb2 hx2 hd2 hdb ha hb h2s hb3 hx3 HAA hfa hfb heg hq h3s
 cases hm:(A.may&&B.may)with
 |false=>
  rw [hm]at HMY;have HM:=zd hm;clear hm HFT
  go_enter Tryz.func30,Tryz.ntmps30
  go_wp2_with(first
   |((with_reducible refine xzag rfl (.tmp 3) ?_ ?_ HB.out.2.1 ?_);exact rfl;exact rfl;rw [HDC.out.1])
   |((with_reducible refine xzag rfl (.tmp 4) ?_ ?_ HB.out.2.2.1 ?_);exact rfl;exact rfl;rw [HDC.out.2])
   |(go_at_call 22;refine(HMY.out _ HB.out.1).mono ?_;rintro e u1 ⟨rfl,hbu⟩;have H1:=zd (HB.out.1.trans (hbu.mono HB.out.1.size));clear hbu))
  go_ret2
  exact⟨by rw [HM.out];rfl,H1.out⟩
 |true=>
  rw [hm]at HMY;have HM:=zd hm;have HF2:=zd (HFT.out (HMD.out hm));clear hm HFT
  go_enter Tryz.func30,Tryz.ntmps30
  go_wp2_with(first
   |((with_reducible refine xzag rfl (.tmp 3) ?_ ?_ HB.out.2.1 ?_);exact rfl;exact rfl;rw [HDC.out.1])
   |((with_reducible refine xzag rfl (.tmp 4) ?_ ?_ HB.out.2.2.1 ?_);exact rfl;exact rfl;rw [HDC.out.2])
   |(go_at_call 22;refine(HMY.out _ HB.out.1).mono ?_;rintro e u1 ⟨rfl,hbu⟩;have H1:=zd (And.intro hbu (And.intro (HB.out.2.1.step (hbu.mono (Nat.le_refl _))) (HB.out.2.2.1.step (hbu.mono (Nat.le_refl _)))));clear HMY hbu)
   |((with_reducible refine xzag rfl (.tmp 3) ?_ ?_ H1.out.2.1 ?_);exact rfl;exact rfl;rw [HDC.out.1])
   |((with_reducible refine xzag rfl (.tmp 4) ?_ ?_ H1.out.2.2 ?_);exact rfl;exact rfl;rw [HDC.out.2])
   |(go_at_call 37
     refine(HF2.out u1 H1.out.1).mono ?_;rintro e u2 ⟨he,hfr,_,_⟩;obtain⟨sv,bv,htv⟩:=xzcg ((tellQ (fun s=>q (A.tg s.1) (B.tg s.2)) (allF A B)).map Prod.snd);rw [htv]at he;subst he;have H2:=zd (And.intro htv (hfr.below _ _ (by have:=H1.out.1.size;have:=HB.out.2.2.2.2;omega) (fun k e=>by cases e) (HB.out.1.trans (H1.out.1.mono HB.out.1.size))))
     clear hfr htv))
  go_ret2
  exact⟨by rw [HM.out,if_pos rfl,H2.out.1];rfl,H2.out.2⟩
end
section
open Go.RowKit
attribute [local irreducible] FreeW textFrame
def qBoth (x y:Int):Bool:=(x != -1)&&(y != -1)
def qDiff (x y:Int):Bool:=x != y
def qWith (x y:Int):Bool:=(x != -1)&&(y== -1)
set_option maxHeartbeats 1000000 in
theorem yzbw (x y:Int)(u:World):Calls Tryz.prog 31 #[.int .i64 x,.int .i64 y] u fun e u'=>e=.returned (.bool (qBoth x y))/\Below u.heap.size u u':=by
 unfold qBoth
 cases h1:(x != -1)
 ·go_enter Tryz.func31,Tryz.ntmps31
  go_wp2;go_ret;exact⟨rfl,Below.refl _ _⟩
 ·go_enter Tryz.func31,Tryz.ntmps31
  go_wp2;go_ret;exact⟨by rw [Bool.true_and];rfl,Below.refl _ _⟩
set_option maxHeartbeats 1000000 in
theorem xzsj (x y:Int)(u:World):Calls Tryz.prog 33 #[.int .i64 x,.int .i64 y] u fun e u'=>e=.returned (.bool (qWith x y))/\Below u.heap.size u u':=by
 unfold qWith
 cases h1:(x != -1)
 ·go_enter Tryz.func33,Tryz.ntmps33
  go_wp2;go_ret;exact⟨rfl,Below.refl _ _⟩
 ·go_enter Tryz.func33,Tryz.ntmps33
  go_wp2;go_ret;exact⟨by rw [Bool.true_and];rfl,Below.refl _ _⟩
set_option maxHeartbeats 1000000 in
theorem xzsk (x y:Int)(u:World):Calls Tryz.prog 32 #[.int .i64 x,.int .i64 y] u fun e u'=>e=.returned (.bool (qDiff x y))/\Below u.heap.size u u':=by
 go_enter Tryz.func32,Tryz.ntmps32
 go_wp2;go_ret;exact⟨rfl,Below.refl _ _⟩
set_option maxRecDepth 20000 in
set_option maxHeartbeats 4000000 in
theorem xzqt (A B:Df)(va vb:Value)(w:World)(ha:DfAt w A va)(hb:DfAt w B vb)(hfa:∀ b,b<256->A.of b<256)(hfb:∀ b,b<256->B.of b<256):
 Calls Tryz.prog 12 #[va,vb] w (TgIs A B qBoth w):=by
 have HAA:=zd (And.intro ha hb);obtain⟨An,cn,At,ct,rfl⟩:=xzal ha;obtain⟨Bn,dn,Bt,dt,rfl⟩:=xzal hb;obtain⟨W1,hbx,hsz,hb1,hx1⟩:=xzat A.of A.n (.slice An A.next.length cn) (.slice At A.tag.length ct) w;obtain⟨W2,hbx2,hsz2,hb2,hx2⟩:=xzat B.of B.n (.slice Bn B.next.length dn) (.slice Bt B.tag.length dt) W1
 have h2s:W2.heap.size=w.heap.size+2:=by omega
 have hd1:=(DfB.of hx1).step hb2;have hd2:=DfB.of hx2;rw [hsz]at hd2;have HB:=zd (And.intro (hb1.trans (hb2.mono (by omega))) (And.intro hd1 hd2));have HFT:=zd (fun(u:World) (hu:Below w.heap.size w u)=>xzcv A B qBoth 31 (fun args w=>by kernel_rfl) yzbw _ _ u (HAA.out.1.step hu) (HAA.out.2.step hu) hfa hfb);obtain⟨da,hda⟩:∃ dc,dfC A.of A.n (.slice An A.next.length cn) (.slice At A.tag.length ct)=dc:=⟨_,rfl⟩;obtain⟨db,hdb⟩:∃ dc,dfC B.of B.n (.slice Bn B.next.length dn) (.slice Bt B.tag.length dt)=dc:=⟨_,rfl⟩;rw [hda]at hbx HFT;rw [hdb]at hbx2 HFT
 have hdsa:da.size=259:=by rw [<-hda];exact xzac _ _ _ _
 have hdsb:db.size=259:=by rw [<-hdb];exact xzac _ _ _ _
 rw [hda,hdb];have HDC:=zd (And.intro hda hdb);clear hb1 hx1 hd1 hda hb2 hx2 hd2 hdb ha hb h2s HAA hfa hfb
 go_enter Tryz.func12,Tryz.ntmps12
 go_wp2_with(first
  |((with_reducible refine xzag rfl (.tmp 2) ?_ ?_ HB.out.2.1 ?_);exact rfl;exact rfl;rw [HDC.out.1])
  |((with_reducible refine xzag rfl (.tmp 3) ?_ ?_ HB.out.2.2 ?_);exact rfl;exact rfl;rw [HDC.out.2])
  |(go_at_call 30
    refine(HFT.out _ HB.out.1).mono ?_;rintro e u1 ⟨he,hbu⟩;obtain⟨sv,bv,htv⟩:=xzcg (if A.may&&B.may then(tellQ (fun s=>qBoth (A.tg s.1) (B.tg s.2)) (allF A B)).map Prod.snd else none);rw [htv]at he;subst he;have H2:=zd (And.intro htv (HB.out.1.trans (hbu.mono HB.out.1.size)))
    clear hbu htv))
 go_ret2
 refine⟨?_,H2.out.2⟩;rw [H2.out.1]
 rfl
set_option maxRecDepth 20000 in
set_option maxHeartbeats 4000000 in
theorem xzjw (A B:Df)(va vb:Value)(w:World)(ha:DfAt w A va)(hb:DfAt w B vb)(hfa:∀ b,b<256->A.of b<256)(hfb:∀ b,b<256->B.of b<256):
 Calls Tryz.prog 13 #[va,vb] w (TgIs A B qDiff w):=by
 have HAA:=zd (And.intro ha hb);obtain⟨An,cn,At,ct,rfl⟩:=xzal ha;obtain⟨Bn,dn,Bt,dt,rfl⟩:=xzal hb;obtain⟨W1,hbx,hsz,hb1,hx1⟩:=xzat A.of A.n (.slice An A.next.length cn) (.slice At A.tag.length ct) w;obtain⟨W2,hbx2,hsz2,hb2,hx2⟩:=xzat B.of B.n (.slice Bn B.next.length dn) (.slice Bt B.tag.length dt) W1
 have h2s:W2.heap.size=w.heap.size+2:=by omega
 have hd1:=(DfB.of hx1).step hb2;have hd2:=DfB.of hx2;rw [hsz]at hd2;have HB:=zd (And.intro (hb1.trans (hb2.mono (by omega))) (And.intro hd1 hd2));have HFT:=zd (fun(u:World) (hu:Below w.heap.size w u)=>xzcv A B qDiff 32 (fun args w=>by kernel_rfl) xzsk _ _ u (HAA.out.1.step hu) (HAA.out.2.step hu) hfa hfb);obtain⟨da,hda⟩:∃ dc,dfC A.of A.n (.slice An A.next.length cn) (.slice At A.tag.length ct)=dc:=⟨_,rfl⟩;obtain⟨db,hdb⟩:∃ dc,dfC B.of B.n (.slice Bn B.next.length dn) (.slice Bt B.tag.length dt)=dc:=⟨_,rfl⟩;rw [hda]at hbx HFT;rw [hdb]at hbx2 HFT
 have hdsa:da.size=259:=by rw [<-hda];exact xzac _ _ _ _
 have hdsb:db.size=259:=by rw [<-hdb];exact xzac _ _ _ _
 rw [hda,hdb];have HDC:=zd (And.intro hda hdb);clear hb1 hx1 hd1 hda hb2 hx2 hd2 hdb ha hb h2s HAA hfa hfb
 go_enter Tryz.func13,Tryz.ntmps13
 go_wp2_with(first
  |((with_reducible refine xzag rfl (.tmp 2) ?_ ?_ HB.out.2.1 ?_);exact rfl;exact rfl;rw [HDC.out.1])
  |((with_reducible refine xzag rfl (.tmp 3) ?_ ?_ HB.out.2.2 ?_);exact rfl;exact rfl;rw [HDC.out.2])
  |(go_at_call 30
    refine(HFT.out _ HB.out.1).mono ?_;rintro e u1 ⟨he,hbu⟩;obtain⟨sv,bv,htv⟩:=xzcg (if A.may&&B.may then(tellQ (fun s=>qDiff (A.tg s.1) (B.tg s.2)) (allF A B)).map Prod.snd else none);rw [htv]at he;subst he;have H2:=zd (And.intro htv (HB.out.1.trans (hbu.mono HB.out.1.size)))
    clear hbu htv))
 go_ret2
 refine⟨?_,H2.out.2⟩;rw [H2.out.1]
 rfl
set_option maxRecDepth 20000 in
set_option maxHeartbeats 4000000 in
theorem xzsl (A B:Df)(va vb:Value)(w:World)(ha:DfAt w A va)(hb:DfAt w B vb)(hfa:∀ b,b<256->A.of b<256)(hfb:∀ b,b<256->B.of b<256):
 Calls Tryz.prog 14 #[va,vb] w (TgIs A B qWith w):=by
 have HAA:=zd (And.intro ha hb);obtain⟨An,cn,At,ct,rfl⟩:=xzal ha;obtain⟨Bn,dn,Bt,dt,rfl⟩:=xzal hb;obtain⟨W1,hbx,hsz,hb1,hx1⟩:=xzat A.of A.n (.slice An A.next.length cn) (.slice At A.tag.length ct) w;obtain⟨W2,hbx2,hsz2,hb2,hx2⟩:=xzat B.of B.n (.slice Bn B.next.length dn) (.slice Bt B.tag.length dt) W1
 have h2s:W2.heap.size=w.heap.size+2:=by omega
 have hd1:=(DfB.of hx1).step hb2;have hd2:=DfB.of hx2;rw [hsz]at hd2;have HB:=zd (And.intro (hb1.trans (hb2.mono (by omega))) (And.intro hd1 hd2));have HFT:=zd (fun(u:World) (hu:Below w.heap.size w u)=>xzcv A B qWith 33 (fun args w=>by kernel_rfl) xzsj _ _ u (HAA.out.1.step hu) (HAA.out.2.step hu) hfa hfb);obtain⟨da,hda⟩:∃ dc,dfC A.of A.n (.slice An A.next.length cn) (.slice At A.tag.length ct)=dc:=⟨_,rfl⟩;obtain⟨db,hdb⟩:∃ dc,dfC B.of B.n (.slice Bn B.next.length dn) (.slice Bt B.tag.length dt)=dc:=⟨_,rfl⟩;rw [hda]at hbx HFT;rw [hdb]at hbx2 HFT
 have hdsa:da.size=259:=by rw [<-hda];exact xzac _ _ _ _
 have hdsb:db.size=259:=by rw [<-hdb];exact xzac _ _ _ _
 rw [hda,hdb];have HDC:=zd (And.intro hda hdb);clear hb1 hx1 hd1 hda hb2 hx2 hd2 hdb ha hb h2s HAA hfa hfb
 go_enter Tryz.func14,Tryz.ntmps14
 go_wp2_with(first
  |((with_reducible refine xzag rfl (.tmp 2) ?_ ?_ HB.out.2.1 ?_);exact rfl;exact rfl;rw [HDC.out.1])
  |((with_reducible refine xzag rfl (.tmp 3) ?_ ?_ HB.out.2.2 ?_);exact rfl;exact rfl;rw [HDC.out.2])
  |(go_at_call 30
    refine(HFT.out _ HB.out.1).mono ?_;rintro e u1 ⟨he,hbu⟩;obtain⟨sv,bv,htv⟩:=xzcg (if A.may&&B.may then(tellQ (fun s=>qWith (A.tg s.1) (B.tg s.2)) (allF A B)).map Prod.snd else none);rw [htv]at he;subst he;have H2:=zd (And.intro htv (HB.out.1.trans (hbu.mono HB.out.1.size)))
    clear hbu htv))
 go_ret2
 refine⟨?_,H2.out.2⟩;rw [H2.out.1]
 rfl
end
end Go.Proofs.YtdjpphjpnkfeiaaGreatDoor
