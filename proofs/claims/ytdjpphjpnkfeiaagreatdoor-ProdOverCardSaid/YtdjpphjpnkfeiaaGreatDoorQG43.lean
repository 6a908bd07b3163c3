/-
 WHAT hacklelaw12's great AND ProdOver ANSWER: contracts. Conditions: the automata's classes are bytes; the table of math/bits lies as it is laid.
-/
import Derived.Test.YtdjpphjpnkfeiaaGreatDoorQG42
import Derived.Test.YtdjpphjpnkfeiaaGreatDoorQG41
import Derived.Test.YtdjpphjpnkfeiaaGreatDoorQG32
import Derived.Test.YtdjpphjpnkfeiaaGreatDoorQG03
import Derived.Test.YtdjpphjpnkfeiaaGreatDoorQG14
namespace Go.Proofs.YtdjpphjpnkfeiaaGreatDoor
section
open Go.RowKit
attribute [local irreducible] FreeW textFrame
set_option maxRecDepth 20000 in
set_option maxHeartbeats 8000000 in
theorem xzsy (A B:Df)(va vb:Value)(w:World)(ha:DfAt w A va)(hb:DfAt w B vb):Calls Tryz.prog 7 #[va,vb] w fun e w'=>∃ gb,e=.returned (.bool gb)/\Below w.heap.size w w':=by
 have HAA:=zd (And.intro ha hb);obtain⟨An,cn,At,ct,rfl⟩:=xzal ha;obtain⟨Bn,dn,Bt,dt,rfl⟩:=xzal hb;obtain⟨W1,hbx,hsz,hb1,hx1⟩:=xzca A.of A.n (.slice An A.next.length cn) (.slice At A.tag.length ct) w;obtain⟨W2,hbx2,hsz2,hb2,hx2⟩:=xzca B.of B.n (.slice Bn B.next.length dn) (.slice Bt B.tag.length dt) W1
 have h2s:W2.heap.size=w.heap.size+2:=by omega
 have hd1:=(DfB.of hx1).step hb2;have hd2:=DfB.of hx2;rw [hsz]at hd2;have HP:=zd (show Below w.heap.size w W2/\DfB W2 w.heap.size A.of A.n (.slice An A.next.length cn) (.slice At A.tag.length ct)/\DfB W2 (w.heap.size+1) B.of B.n (.slice Bn B.next.length dn) (.slice Bt B.tag.length dt)from⟨hb1.trans (hb2.mono (by omega)),hd1,hd2⟩);have HGA:=zd (fun(u:World) (hu:Below w.heap.size w u)=>xzmz A _ u (HAA.out.1.step hu));have HGB:=zd (fun(u:World) (hu:Below w.heap.size w u)=>xzmz B _ u (HAA.out.2.step hu));obtain⟨da,hda⟩:∃ dc,dfC A.of A.n (.slice An A.next.length cn) (.slice At A.tag.length ct)=dc:=⟨_,rfl⟩;obtain⟨db,hdb⟩:∃ dc,dfC B.of B.n (.slice Bn B.next.length dn) (.slice Bt B.tag.length dt)=dc:=⟨_,rfl⟩;rw [hda]at hbx HGA;rw [hdb]at hbx2 HGB
 have hdsa:da.size=259:=by rw [<-hda];exact xzac _ _ _ _
 have hdsb:db.size=259:=by rw [<-hdb];exact xzac _ _ _ _
 rw [hda,hdb];have HDC:=zd (And.intro hda hdb);clear hb1 hx1 hd1 hda hb2 hx2 hd2 hdb ha hb h2s HAA
 go_enter Tryz.func7,Tryz.ntmps7
 go_wp2_with((with_reducible refine xzbc rfl (.tmp 2) ?_ ?_ HP.out.2.1 ?_);exact rfl;exact rfl;rw [HDC.out.1])
 go_at_call 21
 refine(HGA.out _ HP.out.1).mono ?_;rintro e u1 ⟨g1,rfl,hbu⟩;have H1:=zd (show Below w.heap.size w u1/\DfB u1 w.heap.size A.of A.n (.slice An A.next.length cn) (.slice At A.tag.length ct)/\DfB u1 (w.heap.size+1) B.of B.n (.slice Bn B.next.length dn) (.slice Bt B.tag.length dt)from⟨HP.out.1.trans (hbu.mono HP.out.1.size),HP.out.2.1.step hbu,HP.out.2.2.step hbu⟩);clear hbu HGA hbx hbx2 hdsa hdsb
 have fin:∀ (x:Bool) (u:World),Below w.heap.size w u->∃ gb,Ending.returned (.bool x)=.returned (.bool gb)/\Below w.heap.size w u:=fun x u h=>⟨x,rfl,h⟩
 have HF:=zd fin;clear fin;have ca:=H1.out.2.1.cells.2.1;have cb:=H1.out.2.2.cells.2.1
 cases g1 with
 |true=>
  go_wp2;go_ret;exact HF.out _ _ H1.out.1
 |false=>
  go_wp2_with((with_reducible refine xzhv (.tmp 3) ?_ ?_ H1.out.2.2 ?_ ?_);exact rfl;exact rfl;kernel_rfl;rw [HDC.out.2])
  go_at_call 21
  refine(HGB.out _ H1.out.1).mono ?_;rintro e u2 ⟨g2,rfl,hbu⟩;have H2:=zd (show Below w.heap.size w u2/\DfB u2 w.heap.size A.of A.n (.slice An A.next.length cn) (.slice At A.tag.length ct)/\DfB u2 (w.heap.size+1) B.of B.n (.slice Bn B.next.length dn) (.slice Bt B.tag.length dt)from⟨H1.out.1.trans (hbu.mono H1.out.1.size),H1.out.2.1.step hbu,H1.out.2.2.step hbu⟩);clear hbu HGB ca cb;have ca:=H2.out.2.1.cells.2.1;have cb:=H2.out.2.2.cells.2.1
  cases g2 with
  |true=>
   go_wp2;go_ret;exact HF.out _ _ H2.out.1
  |false=>
   by_cases hA:12<A.next.length
   ·have e1:decide ((A.next.length:Int)>12)=true:=by simp;omega
    have e1b:decide ((12:Int)<(A.next.length:Int))=true:=by simp;omega
    go_wp2;go_ret;exact HF.out _ _ H2.out.1
   ·have e1:decide ((A.next.length:Int)>12)=false:=by simp;omega
    have e1b:decide ((12:Int)<(A.next.length:Int))=false:=by simp;omega
    by_cases hB:12<B.next.length
    ·have e2:decide ((B.next.length:Int)>12)=true:=by simp;omega
     have e2b:decide ((12:Int)<(B.next.length:Int))=true:=by simp;omega
     go_wp2;go_ret;exact HF.out _ _ H2.out.1
    ·have e2:decide ((B.next.length:Int)>12)=false:=by simp;omega
     have e2b:decide ((12:Int)<(B.next.length:Int))=false:=by simp;omega
     go_wp2;go_ret;exact HF.out _ _ H2.out.1
theorem xzyf (r:Option (List Nat×Nat)):∃ sv bv ok,overV r=.tuple #[.string sv,.int .u8 bv,.bool ok]:=by
 cases r with
 |none=>exact⟨_,_,_,rfl⟩
 |some x=>exact⟨_,_,_,rfl⟩
theorem yzcs (rule:Int)(m:Nat->Bool):overP dfNone rule m=none:=by
 unfold overP;rw [show allF dfNone dfNone.bare=[]by decide+kernel]
 rfl
theorem yzgm {D:Df}(hm:D.may=false)(rule:Int)(m:Nat->Bool):(if rule<0 then none else overP D.trim rule m)=none:=by
 split
 ·rfl
 ·unfold Df.trim
  rw [hm,if_neg (by decide)];exact yzcs rule m
theorem yzgn {D:Df}(hm:D.may=true)(rule:Int)(m:Nat->Bool):(if rule<0 then none else overP D.trim rule m)=(if rule<0 then none else overR D rule m):=by
 split
 ·rfl
 ·unfold Df.trim
  rw [if_pos hm];exact yzdi (xzrk hm) (by omega) m
set_option maxRecDepth 20000 in
set_option maxHeartbeats 16000000 in
theorem xzop (D:Df)(rule:Int)(m:Nat->Bool)(v:Value)(w:World)(h:DfAt w D v)(hf:∀ b,b<256->D.of b<256)(hT:Tab w):
 Calls Tryz.prog 5 #[v,.int .i64 rule,setV m] w fun e w'=>e=.returned (.bool true)/\Below w.heap.size w w':=by
 have HAT:=zd h;have HFF:=zd hf;have HT:=zd hT;obtain⟨An,cn,At,ct,rfl⟩:=xzal h;obtain⟨W1,hbx,hsz,hb1,hx1⟩:=xzca D.of D.n (.slice An D.next.length cn) (.slice At D.tag.length ct) w;obtain⟨W2,hW2⟩:∃ W2,W1.alloc (.cells #[.int .u64 (wd m 0:Nat),.int .u64 (wd m 1:Nat),.int .u64 (wd m 2:Nat),.int .u64 (wd m 3:Nat)] 48)=W2:=⟨_,rfl⟩
 have hb2:Below W1.heap.size W1 W2:=by rw [<-hW2];exact(Below.refl _ _).alloc (Nat.le_refl _) _
 have hs2:W2.heap.size=w.heap.size+2:=by rw [<-hW2];simp [hsz]
 have hx2:BlkIs W2 (w.heap.size+1) 48 #[.int .u64 (wd m 0:Nat),.int .u64 (wd m 1:Nat),.int .u64 (wd m 2:Nat),.int .u64 (wd m 3:Nat)]:=by rw [<-hW2,<-hsz];exact BlkIs.new _ _ _
 have HB:=zd (show Below w.heap.size w W2/\DfB W2 w.heap.size D.of D.n (.slice An D.next.length cn) (.slice At D.tag.length ct)/\BlkIs W2 (w.heap.size+1) 48 #[.int .u64 (wd m 0:Nat),.int .u64 (wd m 1:Nat),.int .u64 (wd m 2:Nat),.int .u64 (wd m 3:Nat)]from⟨hb1.trans (hb2.mono (by omega)),(DfB.of hx1).step hb2,hx2⟩);have HAL:=zd (xzsx W2 (hT.step HB.out.1));have HGR:=zd (fun(u:World) (hu:Below w.heap.size w u)=>xzsy D D _ _ u (HAT.out.step hu) (HAT.out.step hu));have HLA:=zd (fun(u:World) (hu:DfB u w.heap.size D.of D.n (.slice An D.next.length cn) (.slice At D.tag.length ct))=>loadDr hu);have HOF:=zd (fun(u:World)=>of9_any D.of D.n An D.next.length cn At D.tag.length ct u);obtain⟨sv,bv,ok,hov⟩:=xzyf (if rule<0 then none else overP D.trim rule m)
 have HOP0:=zd (fun(u:World) (hu:Below w.heap.size w u)=>show Calls Tryz.prog 16 #[.agg (dfC D.of D.n (.slice An D.next.length cn) (.slice At D.tag.length ct)),.int .i64 rule,setV m] u (fun e u'=>e=.returned (.tuple #[.string sv,.int .u8 bv,.bool ok])/\Below u.heap.size u u')by
  have:=xzqv D rule m _ u (HAT.out.step hu) HFF.out (HT.out.step hu);unfold OverIs at this;rw [hov]at this
  exact this)
 have HMR:=zd (fun(u:World) (hu:Below w.heap.size w u)=>xzsc D _ u (HAT.out.step hu) HFF.out)
 have HRO:=zd (fun(hm:D.may=true) (u:World) (hu:Below w.heap.size w u)=>show Calls Tryz.prog 17 #[.agg (dfC D.of D.n (.slice An D.next.length cn) (.slice At D.tag.length ct)),.int .i64 rule,setV m] u (fun e u'=>e=.returned (.tuple #[.string sv,.int .u8 bv,.bool ok])/\Below u.heap.size u u')by
  have:=xzst D rule m _ u (HAT.out.step hu) (xzrk hm) HFF.out;unfold ROverIs at this;rw [<-yzgn hm,hov]at this
  exact this)
 have HNO:=zd (fun(hm:D.may=false)=>show sv=⟨#[]⟩/\bv=0/\ok=false by
  rw [yzgm hm]at hov;have:overV none=.tuple #[.string ⟨#[]⟩,.int .u8 0,.bool false]:=rfl;rw [this]at hov;simp only [Value.tuple.injEq,Array.mk.injEq,List.cons.injEq,Value.string.injEq,Value.int.injEq,Value.bool.injEq,and_true,true_and]at hov
  exact⟨hov.1.symm,hov.2.1.symm,hov.2.2.symm⟩)
 unfold setV at HOP0 HRO;unfold setV;obtain⟨da,hda⟩:∃ dc,dfC D.of D.n (.slice An D.next.length cn) (.slice At D.tag.length ct)=dc:=⟨_,rfl⟩;rw [hda]at hbx HGR HLA HOF HOP0 HMR HRO
 have hds:da.size=259:=by rw [<-hda];exact xzac _ _ _ _
 rw [hda];have HDC:=zd hda;clear hb1 hx1 hb2 hx2 hs2 hda h hf hT hov HAT HFF HT
 go_enter Tryz.func5,Tryz.ntmps5
 go_wp2_with fail
 go_at_call 6
 refine HAL.out.mono ?_;rintro e u1 ⟨rfl,hbu⟩;have H1:=zd (show Below w.heap.size w u1/\DfB u1 w.heap.size D.of D.n (.slice An D.next.length cn) (.slice At D.tag.length ct)/\BlkIs u1 (w.heap.size+1) 48 #[.int .u64 (wd m 0:Nat),.int .u64 (wd m 1:Nat),.int .u64 (wd m 2:Nat),.int .u64 (wd m 3:Nat)]from⟨HB.out.1.trans (hbu.mono HB.out.1.size),HB.out.2.1.step hbu,HB.out.2.2.step hbu⟩);clear hbu HAL hbx hW2 HB
 go_wp2_with((with_reducible refine xzbc rfl (.tmp 3) ?_ ?_ H1.out.2.1 ?_);exact rfl;exact rfl;rw [HDC.out])
 go_at_call 7
 refine(HGR.out _ H1.out.1).mono ?_;rintro e wz ⟨gb,rfl,hbu⟩;have H2:=zd (show Below w.heap.size w wz/\DfB wz w.heap.size D.of D.n (.slice An D.next.length cn) (.slice At D.tag.length ct)/\BlkIs wz (w.heap.size+1) 48 #[.int .u64 (wd m 0:Nat),.int .u64 (wd m 1:Nat),.int .u64 (wd m 2:Nat),.int .u64 (wd m 3:Nat)]from⟨H1.out.1.trans (hbu.mono H1.out.1.size),H1.out.2.1.step hbu,H1.out.2.2.step hbu⟩);clear hbu HGR H1
 cases gb with
 |true=>
  go_wp2;go_ret;exact⟨rfl,H2.out.1⟩
 |false=>
 have HPK:=zd (fun(u:World) (hu:Below wz.heap.size wz u)=>show DfB u w.heap.size D.of D.n (.slice An D.next.length cn) (.slice At D.tag.length ct)/\u.cell? ⟨w.heap.size+1,0,none⟩=some (.int .u64 (wd m 0:Nat))/\u.cell? ⟨w.heap.size+1,1,none⟩=some (.int .u64 (wd m 1:Nat))/\u.cell? ⟨w.heap.size+1,2,none⟩=some (.int .u64 (wd m 2:Nat))/\u.cell? ⟨w.heap.size+1,3,none⟩=some (.int .u64 (wd m 3:Nat))from
  ⟨H2.out.2.1.step hu,(H2.out.2.2.step hu).cell 0,(H2.out.2.2.step hu).cell 1,(H2.out.2.2.step hu).cell 2,(H2.out.2.2.step hu).cell 3⟩)
 have HOP:=zd (fun(u:World) (hu:Below wz.heap.size wz u)=>HOP0.out u (H2.out.1.trans (hu.mono H2.out.1.size)));clear hds
 go_wp2_with fail
 refine xzaf 12 61 (fun u=>Hid (Below wz.heap.size wz u)) (fun _ u u'=>Below u.heap.size u u')
  (fun i v u=>match i with
   |0=>v=.agg da
   |1=>v=.agg da
   |2=>v=.int .i64 rule
   |3=>v=.agg #[.int .u64 (wd m 0:Nat),.int .u64 (wd m 1:Nat),.int .u64 (wd m 2:Nat),.int .u64 (wd m 3:Nat)]
   |4=>v=.tuple #[.string sv,.int .u8 bv,.bool ok]
   |5=>v=.tuple #[.string sv,.int .u8 bv,.bool ok]
   |6=>v=.string sv
   |7=>v=.int .u8 bv
   |8=>v=.bool ok
   |9=>v=.string sv
   |10=>v=.int .u8 bv
   |11=>v=.bool ok
   |_=>True) (by kernel_rfl) (by kernel_rfl) rfl (zd (Below.refl _ _).drew) ?_ ?_ ?_ ?_
 ·intro i u u' hix hC hr
  exact zd (hC.out.trans (hr.mono hC.out.size))
 ·intro i j v u u' hix hj hne hv hr
  match i,hix,hne,hv with
  |0,_,_,hv=>exact hv
  |1,_,_,hv=>exact hv
  |2,_,_,hv=>exact hv
  |3,_,_,hv=>exact hv
  |4,_,_,hv=>exact hv
  |5,_,_,hv=>exact hv
  |6,_,_,hv=>exact hv
  |7,_,_,hv=>exact hv
  |8,_,_,hv=>exact hv
  |9,_,_,hv=>exact hv
  |10,_,_,hv=>exact hv
  |11,_,_,hv=>exact hv
  |i+12,hix,_,_=>omega
 ·intro i hix vs u hC hw oq ho
  match i,hix,hw,ho with
  |0,_,hw,ho=>
   simp only [zq,zh]at ho;subst ho;refine⟨rfl,?_⟩;clear hw;simp only [xzaa,tmpsTo];rw [xzah 28 (.tmp 3) _ rfl rfl (HLA.out u (HPK.out u hC.out).1)];exact xzab (Below.refl _ _) rfl
  |1,_,hw,ho=>
   have e0:vs 0=.agg da:=hw 0 (by omega) (by kernel_rfl);simp only [zq,zh]at ho;subst ho;refine⟨rfl,?_⟩;clear hw;simp only [xzaa,tmpsTo,putT,zr];rw [e0];clear e0;go_simp;refine xzap ((HOF.out u).mono ?_);rintro e u' ⟨rfl,hbu⟩;exact⟨_,rfl,hbu,rfl⟩
  |2,_,hw,ho=>
   simp only [zq,zh]at ho;subst ho;refine⟨rfl,?_⟩;clear hw;simp only [xzaa,tmpsTo,putT,zr];go_simp;exact xzab (Below.refl _ _) rfl
  |3,_,hw,ho=>
   simp only [zq,zh]at ho;subst ho;refine⟨rfl,?_⟩;obtain⟨s0,s1,s2,s3⟩:=(HPK.out u hC.out).2;clear hw;simp only [xzaa,tmpsTo,putT,zr];go_simp;exact xzab (Below.refl _ _) rfl
  |4,_,hw,ho=>
   have e1:vs 1=.agg da:=hw 1 (by omega) (by kernel_rfl);have e2:vs 2=.int .i64 rule:=hw 2 (by omega) (by kernel_rfl);have e3:vs 3=.agg #[.int .u64 (wd m 0:Nat),.int .u64 (wd m 1:Nat),.int .u64 (wd m 2:Nat),.int .u64 (wd m 3:Nat)]:=hw 3 (by omega) (by kernel_rfl);simp only [zq,zh]at ho;subst ho;refine⟨rfl,?_⟩;clear hw;simp only [xzaa,tmpsTo,putT,zr];rw [e1,e2,e3];clear e1 e2 e3;go_simp;refine xzap ((HOP.out u hC.out).mono ?_);rintro e u' ⟨rfl,hbu⟩;exact⟨_,rfl,hbu,rfl⟩
  |5,_,hw,ho=>
   have e4:vs 4=.tuple #[.string sv,.int .u8 bv,.bool ok]:=hw 4 (by omega) (by kernel_rfl);simp only [zq,zh]at ho;subst ho;refine⟨rfl,?_⟩;clear hw;simp only [xzaa,tmpsTo,putT,zr];rw [e4];clear e4;go_simp;exact xzab (Below.refl _ _) rfl
  |6,_,hw,ho=>
   have e5:vs 5=.tuple #[.string sv,.int .u8 bv,.bool ok]:=hw 5 (by omega) (by kernel_rfl);simp only [zq,zh]at ho;subst ho;refine⟨rfl,?_⟩;clear hw;simp only [xzaa,tmpsTo,putT,zr];rw [e5];clear e5;go_simp;exact xzab (Below.refl _ _) rfl
  |7,_,hw,ho=>
   have e5:vs 5=.tuple #[.string sv,.int .u8 bv,.bool ok]:=hw 5 (by omega) (by kernel_rfl);simp only [zq,zh]at ho;subst ho;refine⟨rfl,?_⟩;clear hw;simp only [xzaa,tmpsTo,putT,zr];rw [e5];clear e5;go_simp;exact xzab (Below.refl _ _) rfl
  |8,_,hw,ho=>
   have e5:vs 5=.tuple #[.string sv,.int .u8 bv,.bool ok]:=hw 5 (by omega) (by kernel_rfl);simp only [zq,zh]at ho;subst ho;refine⟨rfl,?_⟩;clear hw;simp only [xzaa,tmpsTo,putT,zr];rw [e5];clear e5;go_simp;exact xzab (Below.refl _ _) rfl
  |9,_,hw,ho=>
   have e6:vs 6=.string sv:=hw 6 (by omega) (by kernel_rfl);simp only [zq,zh]at ho;subst ho;refine⟨rfl,?_⟩;clear hw;simp only [xzaa,tmpsTo,putT,zr];rw [e6];clear e6;go_simp;exact xzab (Below.refl _ _) rfl
  |10,_,hw,ho=>
   have e7:vs 7=.int .u8 bv:=hw 7 (by omega) (by kernel_rfl);simp only [zq,zh]at ho;subst ho;refine⟨rfl,?_⟩;clear hw;simp only [xzaa,tmpsTo,putT,zr];rw [e7];clear e7;go_simp;exact xzab (Below.refl _ _) rfl
  |11,_,hw,ho=>
   have e8:vs 8=.bool ok:=hw 8 (by omega) (by kernel_rfl);simp only [zq,zh]at ho;subst ho;refine⟨rfl,?_⟩;clear hw;simp only [xzaa,tmpsTo,putT,zr];rw [e8];clear e8;go_simp;exact xzab (Below.refl _ _) rfl
  |i+12,hix,_,_=>omega
 intro vs1 u hC hV;have q6:vs1 9=.string sv:=hV 9 (by omega);have q7:vs1 10=.int .u8 bv:=hV 10 (by omega);have q8:vs1 11=.bool ok:=hV 11 (by omega);clear hV;simp only [xzaa,tmpsTo,putT,zr,List.drop_succ_cons,List.drop_zero];rw [q6,q7,q8];clear q6 q7 q8;generalize vs1 0=g0;generalize vs1 1=g1;generalize vs1 2=g2;generalize vs1 3=g3;generalize vs1 4=g4;generalize vs1 5=g5;generalize vs1 6=g6;generalize vs1 7=g7;generalize vs1 8=g8;have H3:=zd (show Below w.heap.size w u/\DfB u w.heap.size D.of D.n (.slice An D.next.length cn) (.slice At D.tag.length ct)/\BlkIs u (w.heap.size+1) 48 #[.int .u64 (wd m 0:Nat),.int .u64 (wd m 1:Nat),.int .u64 (wd m 2:Nat),.int .u64 (wd m 3:Nat)]from⟨H2.out.1.trans (hC.out.mono H2.out.1.size),H2.out.2.1.step hC.out,H2.out.2.2.step hC.out⟩);clear hC H2 HPK HOP HOP0 HOF
 go_wp2_with((with_reducible refine xzbc rfl (.tmp 3) ?_ ?_ H3.out.2.1 ?_);exact rfl;exact rfl;rw [HDC.out])
 go_at_call 10
 refine(HMR.out _ H3.out.1).mono ?_;rintro e u4 ⟨rfl,hbu⟩;have H4:=zd (show Below w.heap.size w u4/\DfB u4 w.heap.size D.of D.n (.slice An D.next.length cn) (.slice At D.tag.length ct)/\BlkIs u4 (w.heap.size+1) 48 #[.int .u64 (wd m 0:Nat),.int .u64 (wd m 1:Nat),.int .u64 (wd m 2:Nat),.int .u64 (wd m 3:Nat)]from⟨H3.out.1.trans (hbu.mono H3.out.1.size),H3.out.2.1.step hbu,H3.out.2.2.step hbu⟩);clear hbu HMR H3
 cases hm:D.may with
 |false=>
  obtain⟨rfl,rfl,rfl⟩:=HNO.out hm;clear HNO HRO hm;go_wp2;go_ret;exact⟨rfl,H4.out.1⟩
 |true=>
  obtain⟨s0,s1,s2,s3⟩:_/\_/\_/\_:=⟨H4.out.2.2.cell 0,H4.out.2.2.cell 1,H4.out.2.2.cell 2,H4.out.2.2.cell 3⟩;simp only [zq]at s0 s1 s2 s3;have HR1:=zd (HRO.out hm);clear HNO HRO hm
  go_wp2_with((with_reducible refine xzbc rfl (.tmp 3) ?_ ?_ H4.out.2.1 ?_);exact rfl;exact rfl;rw [HDC.out])
  go_at_call 17
  refine(HR1.out _ H4.out.1).mono ?_;rintro e u5 ⟨rfl,hbu⟩;have H5:=zd (H4.out.1.trans (hbu.mono H4.out.1.size));clear hbu HR1 H4 s0 s1 s2 s3;go_wp2;go_ret;exact⟨by simp,H5.out⟩
end
section
open Go.ChangeShapes Go.WideShapes Go.ChangeAt Go.RowKit
section
variable {H : Type} {enc : TypeId × Value → H} {W : World} {r : Reach} {base b0 : Nat} {spare : Nat → Bool} {held : Bool}
theorem xzsz:Tryz.prog.cellsOf 48=4:=by kernel_rfl
theorem xzta:Tryz.prog.cellsOf 46=1:=by kernel_rfl
theorem xzky {x:Int}(h:(Lit.int .u64 x).wf=true):∃ n:Nat,n<18446744073709551616/\x=(n:Int):=by
 have h2:0<=x/\x<18446744073709551616:=by
  simp [Lit.wf,IntKind.min,IntKind.max,IntKind.signed,IntKind.bits]at h
  omega
 exact⟨x.toNat,by omega,by omega⟩
theorem yzct {α:Type}(l:List α)(h:(⟨l⟩:Array α).size=4):∃ a b c d,l=[a,b,c,d]:=by
 match l,h with
 |[a,b,c,d],_=>exact⟨a,b,c,d,rfl⟩
set_option maxRecDepth 100000 in
theorem yzcu {v:Value}{d:DataW H}{ps:List MemPlace}(hval:Value.okWide Tryz.prog W r b0 48 v)(hd:DataW.Trod enc Tryz.prog W base spare held 48 v d ps):∃ m,v=setV m:=by
 obtain⟨cs,rfl,hsz,_⟩:∃ cs,v=.agg cs/\cs.size=Tryz.prog.cellsOf 48/\Row.okWide Tryz.prog W r b0 48 cs:=by
  simpa [Value.okWide,Tryz.underlying48]using hval
 rw [xzsz]at hsz;obtain⟨l⟩:=cs;obtain⟨c0,c1,c2,c3,rfl⟩:=yzct l hsz;obtain⟨fuel,hf⟩:=hd;obtain⟨y0,y1,y2,y3,k,_,hy0,hy1,hy2,hy3⟩:=trod_array4 Tryz.underlying48 xzta hf;obtain⟨x0,e0,_,w0⟩:=DataW.trod_int Tryz.underlying46 hy0;obtain⟨x1,e1,_,w1⟩:=DataW.trod_int Tryz.underlying46 hy1;obtain⟨x2,e2,_,w2⟩:=DataW.trod_int Tryz.underlying46 hy2;obtain⟨x3,e3,_,w3⟩:=DataW.trod_int Tryz.underlying46 hy3
 simp at e0 e1 e2 e3
 subst e0 e1 e2 e3;obtain⟨n0,l0,rfl⟩:=xzky w0;obtain⟨n1,l1,rfl⟩:=xzky w1;obtain⟨n2,l2,rfl⟩:=xzky w2;obtain⟨n3,l3,rfl⟩:=xzky w3;refine⟨memOf n0 n1 n2 n3,?_⟩;unfold setV;rw [<-xzyg (a1:=n1) (a2:=n2) (a3:=n3) l0,<-xzyh (a0:=n0) (a2:=n2) (a3:=n3) l1,<-xzyi (a0:=n0) (a1:=n1) (a3:=n3) l2,<-xzyj (a0:=n0) (a1:=n1) (a2:=n2) l3]
end
end
end Go.Proofs.YtdjpphjpnkfeiaaGreatDoor
