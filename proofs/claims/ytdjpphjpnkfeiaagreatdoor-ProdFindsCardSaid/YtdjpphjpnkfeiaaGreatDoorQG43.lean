/-
 WHAT hacklelaw12's great AND ProdOver ANSWER: contracts. Conditions: the automata's classes are bytes; the table of math/bits lies as it is laid.
-/
import Derived.Test.YtdjpphjpnkfeiaaGreatDoorQG42
import Derived.Test.YtdjpphjpnkfeiaaGreatDoorQG41
import Derived.Test.YtdjpphjpnkfeiaaGreatDoorQG32
import Derived.Test.YtdjpphjpnkfeiaaGreatDoorQG39
namespace Go.Proofs.YtdjpphjpnkfeiaaGreatDoor
section
open Go.RowKit
attribute [local irreducible] FreeW textFrame
set_option maxRecDepth 20000 in
set_option maxHeartbeats 8000000 in
theorem xzsr (A B:Df)(va vb:Value)(w:World)(ha:DfAt w A va)(hb:DfAt w B vb):Calls Tryz.prog 7 #[va,vb] w fun e w'=>∃ gb,e=.returned (.bool gb)/\Below w.heap.size w w':=by
 have HAA:=zd (And.intro ha hb);obtain⟨An,cn,At,ct,rfl⟩:=xzal ha;obtain⟨Bn,dn,Bt,dt,rfl⟩:=xzal hb;obtain⟨W1,hbx,hsz,hb1,hx1⟩:=xzbu A.of A.n (.slice An A.next.length cn) (.slice At A.tag.length ct) w;obtain⟨W2,hbx2,hsz2,hb2,hx2⟩:=xzbu B.of B.n (.slice Bn B.next.length dn) (.slice Bt B.tag.length dt) W1
 have h2s:W2.heap.size=w.heap.size+2:=by omega
 have hd1:=(DfB.of hx1).step hb2;have hd2:=DfB.of hx2;rw [hsz]at hd2;have HP:=zd (show Below w.heap.size w W2/\DfB W2 w.heap.size A.of A.n (.slice An A.next.length cn) (.slice At A.tag.length ct)/\DfB W2 (w.heap.size+1) B.of B.n (.slice Bn B.next.length dn) (.slice Bt B.tag.length dt)from⟨hb1.trans (hb2.mono (by omega)),hd1,hd2⟩);have HGA:=zd (fun(u:World) (hu:Below w.heap.size w u)=>xzmy A _ u (HAA.out.1.step hu));have HGB:=zd (fun(u:World) (hu:Below w.heap.size w u)=>xzmy B _ u (HAA.out.2.step hu));obtain⟨da,hda⟩:∃ dc,dfC A.of A.n (.slice An A.next.length cn) (.slice At A.tag.length ct)=dc:=⟨_,rfl⟩;obtain⟨db,hdb⟩:∃ dc,dfC B.of B.n (.slice Bn B.next.length dn) (.slice Bt B.tag.length dt)=dc:=⟨_,rfl⟩;rw [hda]at hbx HGA;rw [hdb]at hbx2 HGB
 have hdsa:da.size=259:=by rw [<-hda];exact xzac _ _ _ _
 have hdsb:db.size=259:=by rw [<-hdb];exact xzac _ _ _ _
 rw [hda,hdb];have HDC:=zd (And.intro hda hdb);clear hb1 hx1 hd1 hda hb2 hx2 hd2 hdb ha hb h2s HAA
 go_enter Tryz.func7,Tryz.ntmps7
 go_wp2_with((with_reducible refine xzao rfl (.tmp 2) ?_ ?_ HP.out.2.1 ?_);exact rfl;exact rfl;rw [HDC.out.1])
 go_at_call 21
 refine(HGA.out _ HP.out.1).mono ?_;rintro e u1 ⟨g1,rfl,hbu⟩;have H1:=zd (show Below w.heap.size w u1/\DfB u1 w.heap.size A.of A.n (.slice An A.next.length cn) (.slice At A.tag.length ct)/\DfB u1 (w.heap.size+1) B.of B.n (.slice Bn B.next.length dn) (.slice Bt B.tag.length dt)from⟨HP.out.1.trans (hbu.mono HP.out.1.size),HP.out.2.1.step hbu,HP.out.2.2.step hbu⟩);clear hbu HGA hbx hbx2 hdsa hdsb
 have fin:∀ (x:Bool) (u:World),Below w.heap.size w u->∃ gb,Ending.returned (.bool x)=.returned (.bool gb)/\Below w.heap.size w u:=fun x u h=>⟨x,rfl,h⟩
 have HF:=zd fin;clear fin;have ca:=H1.out.2.1.cells.2.1;have cb:=H1.out.2.2.cells.2.1
 cases g1 with
 |true=>
  go_wp2;go_ret;exact HF.out _ _ H1.out.1
 |false=>
  go_wp2_with((with_reducible refine xzev (.tmp 3) ?_ ?_ H1.out.2.2 ?_ ?_);exact rfl;exact rfl;kernel_rfl;rw [HDC.out.2])
  go_at_call 21
  refine(HGB.out _ H1.out.1).mono ?_;rintro e u2 ⟨g2,rfl,hbu⟩;have H2:=zd (show Below w.heap.size w u2/\DfB u2 w.heap.size A.of A.n (.slice An A.next.length cn) (.slice At A.tag.length ct)/\DfB u2 (w.heap.size+1) B.of B.n (.slice Bn B.next.length dn) (.slice Bt B.tag.length dt)from⟨H1.out.1.trans (hbu.mono H1.out.1.size),H1.out.2.1.step hbu,H1.out.2.2.step hbu⟩);clear hbu HGB ca cb;have ca:=H2.out.2.1.cells.2.1;have cb:=H2.out.2.2.cells.2.1
  cases g2 with
  |true=>
   go_wp2;go_ret;exact HF.out _ _ H2.out.1
  |false=>
   by_cases hA:12<A.next.length
   ·have e1:decide ((A.next.length:Int)>12)=true:=by simp;omega
    have e1b:decide ((12:Int)<(A.next.length:Int))=true:=by simp;omega
    go_wp2;go_ret;exact HF.out _ _ H2.out.1
   ·have e1:decide ((A.next.length:Int)>12)=false:=by simp;omega
    have e1b:decide ((12:Int)<(A.next.length:Int))=false:=by simp;omega
    by_cases hB:12<B.next.length
    ·have e2:decide ((B.next.length:Int)>12)=true:=by simp;omega
     have e2b:decide ((12:Int)<(B.next.length:Int))=true:=by simp;omega
     go_wp2;go_ret;exact HF.out _ _ H2.out.1
    ·have e2:decide ((B.next.length:Int)>12)=false:=by simp;omega
     have e2b:decide ((12:Int)<(B.next.length:Int))=false:=by simp;omega
     go_wp2;go_ret;exact HF.out _ _ H2.out.1
end
section
open Go.RowKit
attribute [local irreducible] FreeW textFrame
set_option maxRecDepth 20000 in
set_option maxHeartbeats 16000000 in
theorem xzmz (A B:Df)(va vb:Value)(w:World)(ha:DfAt w A va)(hb:DfAt w B vb)(hfa:∀ b,b<256->A.of b<256)(hfb:∀ b,b<256->B.of b<256)(hT:Tab w):
 Calls Tryz.prog 4 #[va,vb] w fun e w'=>e=.returned (.bool true)/\Below w.heap.size w w':=by
 have HFF:=zd (And.intro hfa hfb);have HAA:=zd (And.intro ha hb);obtain⟨An,cn,At,ct,rfl⟩:=xzal ha;obtain⟨Bn,dn,Bt,dt,rfl⟩:=xzal hb;obtain⟨W1,hbx,hsz,hb1,hx1⟩:=xzbu A.of A.n (.slice An A.next.length cn) (.slice At A.tag.length ct) w;obtain⟨W2,hbx2,hsz2,hb2,hx2⟩:=xzbu B.of B.n (.slice Bn B.next.length dn) (.slice Bt B.tag.length dt) W1
 have h2s:W2.heap.size=w.heap.size+2:=by omega
 have hd1:=(DfB.of hx1).step hb2;have hd2:=DfB.of hx2;rw [hsz]at hd2;have HP:=zd (show Below w.heap.size w W2/\DfB W2 w.heap.size A.of A.n (.slice An A.next.length cn) (.slice At A.tag.length ct)/\DfB W2 (w.heap.size+1) B.of B.n (.slice Bn B.next.length dn) (.slice Bt B.tag.length dt)from⟨hb1.trans (hb2.mono (by omega)),hd1,hd2⟩);have HAL:=zd (xzsq W2 (hT.step HP.out.1));have HGR:=zd (fun(u:World) (hu:Below w.heap.size w u)=>xzsr A B _ _ u (HAA.out.1.step hu) (HAA.out.2.step hu));have HLA:=zd (fun(u:World) (hu:DfB u w.heap.size A.of A.n (.slice An A.next.length cn) (.slice At A.tag.length ct))=>loadDr hu);have HLB:=zd (fun(u:World) (hu:DfB u (w.heap.size+1) B.of B.n (.slice Bn B.next.length dn) (.slice Bt B.tag.length dt))=>loadDr hu);have HOA:=zd (fun(u:World)=>yzct A.of A.n An A.next.length cn At A.tag.length ct u);have HOB:=zd (fun(u:World)=>yzct B.of B.n Bn B.next.length dn Bt B.tag.length dt u);have HMA:=zd (fun(u:World) (hu:Below w.heap.size w u)=>xzjr A _ u (HAA.out.1.step hu) HFF.out.1);have HMB:=zd (fun(u:World) (hu:Below w.heap.size w u)=>xzjr B _ u (HAA.out.2.step hu) HFF.out.2);obtain⟨s0,b0,hov0⟩:=xzcg (if A.may&&B.may then(tellQ (fun s=>qBoth (A.tg s.1) (B.tg s.2)) (allF A B)).map Prod.snd else none)
 have HOP0:=zd (fun(u:World) (hu:Below w.heap.size w u)=>show Calls Tryz.prog 12 #[.agg (dfC A.of A.n (.slice An A.next.length cn) (.slice At A.tag.length ct)),.agg (dfC B.of B.n (.slice Bn B.next.length dn) (.slice Bt B.tag.length dt))] u (fun e u'=>e=.returned (.tuple #[.string s0,.bool b0])/\Below u.heap.size u u')by
  have:=xzqt A B _ _ u (HAA.out.1.step hu) (HAA.out.2.step hu) HFF.out.1 HFF.out.2;unfold TgIs at this;rw [hov0]at this
  exact this)
 have HRF0:=zd (fun(hma:A.may=true) (hmb:B.may=true) (u:World) (hu:Below w.heap.size w u)=>show Calls Tryz.prog 15 #[.agg (dfC A.of A.n (.slice An A.next.length cn) (.slice At A.tag.length ct)),.agg (dfC B.of B.n (.slice Bn B.next.length dn) (.slice Bt B.tag.length dt)),.int .i64 0] u (fun e u'=>e=.returned (.tuple #[.string s0,.bool b0])/\Below u.heap.size u u')by
  have:=xzfu A B 0 qBoth (.inl ⟨rfl,rfl⟩) _ _ u (HAA.out.1.step hu) (HAA.out.2.step hu) (xzlz hma) (xzlz hmb) HFF.out.1 HFF.out.2;unfold RFindIs at this;rw [hma,hmb,show(if(true&&true)=true then(tellQ (fun s=>qBoth (A.tg s.1) (B.tg s.2)) (allF A B)).map Prod.snd else none)=(tellQ (fun s=>qBoth (A.tg s.1) (B.tg s.2)) (allF A B)).map Prod.snd from rfl]at hov0;rw [hov0]at this
  exact this)
 have HNO0:=zd (fun(hm:(A.may&&B.may)=false)=>show s0=⟨#[]⟩/\b0=false by
  rw [hm,show toldV (if false=true then(tellQ (fun s=>qBoth (A.tg s.1) (B.tg s.2)) (allF A B)).map Prod.snd else none)=.tuple #[.string ⟨#[]⟩,.bool false]from rfl]at hov0;simp only [Value.tuple.injEq,Array.mk.injEq,List.cons.injEq,Value.string.injEq,Value.bool.injEq,and_true]at hov0
  exact⟨hov0.1.symm,hov0.2.symm⟩)
 obtain⟨s1,b1,hov1⟩:=xzcg (if A.may&&B.may then(tellQ (fun s=>qDiff (A.tg s.1) (B.tg s.2)) (allF A B)).map Prod.snd else none)
 have HOP1:=zd (fun(u:World) (hu:Below w.heap.size w u)=>show Calls Tryz.prog 13 #[.agg (dfC A.of A.n (.slice An A.next.length cn) (.slice At A.tag.length ct)),.agg (dfC B.of B.n (.slice Bn B.next.length dn) (.slice Bt B.tag.length dt))] u (fun e u'=>e=.returned (.tuple #[.string s1,.bool b1])/\Below u.heap.size u u')by
  have:=xzjw A B _ _ u (HAA.out.1.step hu) (HAA.out.2.step hu) HFF.out.1 HFF.out.2;unfold TgIs at this;rw [hov1]at this
  exact this)
 have HRF1:=zd (fun(hma:A.may=true) (hmb:B.may=true) (u:World) (hu:Below w.heap.size w u)=>show Calls Tryz.prog 15 #[.agg (dfC A.of A.n (.slice An A.next.length cn) (.slice At A.tag.length ct)),.agg (dfC B.of B.n (.slice Bn B.next.length dn) (.slice Bt B.tag.length dt)),.int .i64 1] u (fun e u'=>e=.returned (.tuple #[.string s1,.bool b1])/\Below u.heap.size u u')by
  have:=xzfu A B 1 qDiff (.inr (.inl ⟨rfl,rfl⟩)) _ _ u (HAA.out.1.step hu) (HAA.out.2.step hu) (xzlz hma) (xzlz hmb) HFF.out.1 HFF.out.2;unfold RFindIs at this;rw [hma,hmb,show(if(true&&true)=true then(tellQ (fun s=>qDiff (A.tg s.1) (B.tg s.2)) (allF A B)).map Prod.snd else none)=(tellQ (fun s=>qDiff (A.tg s.1) (B.tg s.2)) (allF A B)).map Prod.snd from rfl]at hov1;rw [hov1]at this
  exact this)
 have HNO1:=zd (fun(hm:(A.may&&B.may)=false)=>show s1=⟨#[]⟩/\b1=false by
  rw [hm,show toldV (if false=true then(tellQ (fun s=>qDiff (A.tg s.1) (B.tg s.2)) (allF A B)).map Prod.snd else none)=.tuple #[.string ⟨#[]⟩,.bool false]from rfl]at hov1;simp only [Value.tuple.injEq,Array.mk.injEq,List.cons.injEq,Value.string.injEq,Value.bool.injEq,and_true]at hov1
  exact⟨hov1.1.symm,hov1.2.symm⟩)
 obtain⟨s2,b2,hov2⟩:=xzcg (if A.may&&B.may then(tellQ (fun s=>qWith (A.tg s.1) (B.tg s.2)) (allF A B)).map Prod.snd else none)
 have HOP2:=zd (fun(u:World) (hu:Below w.heap.size w u)=>show Calls Tryz.prog 14 #[.agg (dfC A.of A.n (.slice An A.next.length cn) (.slice At A.tag.length ct)),.agg (dfC B.of B.n (.slice Bn B.next.length dn) (.slice Bt B.tag.length dt))] u (fun e u'=>e=.returned (.tuple #[.string s2,.bool b2])/\Below u.heap.size u u')by
  have:=xzsl A B _ _ u (HAA.out.1.step hu) (HAA.out.2.step hu) HFF.out.1 HFF.out.2;unfold TgIs at this;rw [hov2]at this
  exact this)
 have HRF2:=zd (fun(hma:A.may=true) (hmb:B.may=true) (u:World) (hu:Below w.heap.size w u)=>show Calls Tryz.prog 15 #[.agg (dfC A.of A.n (.slice An A.next.length cn) (.slice At A.tag.length ct)),.agg (dfC B.of B.n (.slice Bn B.next.length dn) (.slice Bt B.tag.length dt)),.int .i64 2] u (fun e u'=>e=.returned (.tuple #[.string s2,.bool b2])/\Below u.heap.size u u')by
  have:=xzfu A B 2 qWith (.inr (.inr ⟨rfl,rfl⟩)) _ _ u (HAA.out.1.step hu) (HAA.out.2.step hu) (xzlz hma) (xzlz hmb) HFF.out.1 HFF.out.2;unfold RFindIs at this;rw [hma,hmb,show(if(true&&true)=true then(tellQ (fun s=>qWith (A.tg s.1) (B.tg s.2)) (allF A B)).map Prod.snd else none)=(tellQ (fun s=>qWith (A.tg s.1) (B.tg s.2)) (allF A B)).map Prod.snd from rfl]at hov2;rw [hov2]at this
  exact this)
 have HNO2:=zd (fun(hm:(A.may&&B.may)=false)=>show s2=⟨#[]⟩/\b2=false by
  rw [hm,show toldV (if false=true then(tellQ (fun s=>qWith (A.tg s.1) (B.tg s.2)) (allF A B)).map Prod.snd else none)=.tuple #[.string ⟨#[]⟩,.bool false]from rfl]at hov2;simp only [Value.tuple.injEq,Array.mk.injEq,List.cons.injEq,Value.string.injEq,Value.bool.injEq,and_true]at hov2
  exact⟨hov2.1.symm,hov2.2.symm⟩)
 obtain⟨da,hda⟩:∃ dc,dfC A.of A.n (.slice An A.next.length cn) (.slice At A.tag.length ct)=dc:=⟨_,rfl⟩;obtain⟨db,hdb⟩:∃ dc,dfC B.of B.n (.slice Bn B.next.length dn) (.slice Bt B.tag.length dt)=dc:=⟨_,rfl⟩;rw [hda]at hbx HGR HLA HOA HMA HOP0 HOP1 HOP2 HRF0 HRF1 HRF2;rw [hdb]at hbx2 HGR HLB HOB HMB HOP0 HOP1 HOP2 HRF0 HRF1 HRF2
 have hdsa:da.size=259:=by rw [<-hda];exact xzac _ _ _ _
 have hdsb:db.size=259:=by rw [<-hdb];exact xzac _ _ _ _
 rw [hda,hdb];have HDC:=zd (And.intro hda hdb);clear hb1 hx1 hd1 hda hb2 hx2 hd2 hdb ha hb h2s HAA HFF hfa hfb hT hov0 hov1 hov2
 go_enter Tryz.func4,Tryz.ntmps4
 go_wp2_with fail
 go_at_call 6
 refine HAL.out.mono ?_;rintro e u1 ⟨rfl,hbu⟩;have H1:=zd (show Below w.heap.size w u1/\DfB u1 w.heap.size A.of A.n (.slice An A.next.length cn) (.slice At A.tag.length ct)/\DfB u1 (w.heap.size+1) B.of B.n (.slice Bn B.next.length dn) (.slice Bt B.tag.length dt)from⟨HP.out.1.trans (hbu.mono HP.out.1.size),HP.out.2.1.step hbu,HP.out.2.2.step hbu⟩);clear hbu HAL hbx hbx2 HP
 go_wp2_with(first
  |((with_reducible refine xzao rfl (.tmp 2) ?_ ?_ H1.out.2.1 ?_);exact rfl;exact rfl;rw [HDC.out.1])
  |((with_reducible refine xzao rfl (.tmp 3) ?_ ?_ H1.out.2.2 ?_);exact rfl;exact rfl;rw [HDC.out.2]))
 go_at_call 7
 refine(HGR.out _ H1.out.1).mono ?_;rintro e wz ⟨gb,rfl,hbu⟩;have H_wz:=zd (show Below w.heap.size w wz/\DfB wz w.heap.size A.of A.n (.slice An A.next.length cn) (.slice At A.tag.length ct)/\DfB wz (w.heap.size+1) B.of B.n (.slice Bn B.next.length dn) (.slice Bt B.tag.length dt)from⟨H1.out.1.trans (hbu.mono H1.out.1.size),H1.out.2.1.step hbu,H1.out.2.2.step hbu⟩);clear hbu HGR H1 hdsa hdsb
 cases gb with
 |true=>
  go_wp2;go_ret;exact⟨rfl,H_wz.out.1⟩
 |false=>
 have HPK:=zd (fun(u:World) (hu:Below wz.heap.size wz u)=>show DfB u w.heap.size A.of A.n (.slice An A.next.length cn) (.slice At A.tag.length ct)/\DfB u (w.heap.size+1) B.of B.n (.slice Bn B.next.length dn) (.slice Bt B.tag.length dt)from⟨H_wz.out.2.1.step hu,H_wz.out.2.2.step hu⟩);have HOP:=zd (fun(u:World) (hu:Below wz.heap.size wz u)=>HOP0.out u (H_wz.out.1.trans (hu.mono H_wz.out.1.size)))
 go_wp2_with fail
 refine xzaf 10 118 (fun u=>Hid (Below wz.heap.size wz u)) (fun _ u u'=>Below u.heap.size u u')
  (fun i v u=>match i with
   |0=>v=.agg da
   |1=>v=.agg da
   |2=>v=.agg db
   |3=>v=.agg db
   |4=>v=.tuple #[.string s0,.bool b0]
   |5=>v=.tuple #[.string s0,.bool b0]
   |6=>v=.string s0
   |7=>v=.bool b0
   |8=>v=.string s0
   |9=>v=.bool b0
   |_=>True) (by kernel_rfl) (by kernel_rfl) rfl (zd (Below.refl _ _).drew) ?_ ?_ ?_ ?_
 ·intro i u u' hix hC hr
  exact zd (hC.out.trans (hr.mono hC.out.size))
 ·intro i j v u u' hix hj hne hv hr
  match i,hix,hne,hv with
  |0,_,_,hv=>exact hv
  |1,_,_,hv=>exact hv
  |2,_,_,hv=>exact hv
  |3,_,_,hv=>exact hv
  |4,_,_,hv=>exact hv
  |5,_,_,hv=>exact hv
  |6,_,_,hv=>exact hv
  |7,_,_,hv=>exact hv
  |8,_,_,hv=>exact hv
  |9,_,_,hv=>exact hv
  |i+10,hix,_,_=>omega
 ·intro i hix vs u hC hw oq ho
  match i,hix,hw,ho with
  |0,_,hw,ho=>
   simp only [zq,zh]at ho;subst ho;refine⟨rfl,?_⟩;clear hw;simp only [xzaa,tmpsTo];rw [xzah 28 (.tmp 2) _ rfl rfl (HLA.out u (HPK.out u hC.out).1)];exact xzab (Below.refl _ _) rfl
  |1,_,hw,ho=>
   have e0:vs 0=.agg da:=hw 0 (by omega) (by kernel_rfl);simp only [zq,zh]at ho;subst ho;refine⟨rfl,?_⟩;clear hw;simp only [xzaa,tmpsTo,putT,zr];rw [e0];clear e0;go_simp;refine xzak ((HOA.out u).mono ?_);rintro e u' ⟨rfl,hbu⟩;exact⟨_,rfl,hbu,rfl⟩
  |2,_,hw,ho=>
   simp only [zq,zh]at ho;subst ho;refine⟨rfl,?_⟩;clear hw;simp only [xzaa,tmpsTo,putT,zr];rw [xzah 28 (.tmp 3) _ rfl rfl (HLB.out u (HPK.out u hC.out).2)];exact xzab (Below.refl _ _) rfl
  |3,_,hw,ho=>
   have e2:vs 2=.agg db:=hw 2 (by omega) (by kernel_rfl);simp only [zq,zh]at ho;subst ho;refine⟨rfl,?_⟩;clear hw;simp only [xzaa,tmpsTo,putT,zr];rw [e2];clear e2;go_simp;refine xzak ((HOB.out u).mono ?_);rintro e u' ⟨rfl,hbu⟩;exact⟨_,rfl,hbu,rfl⟩
  |4,_,hw,ho=>
   have e1:vs 1=.agg da:=hw 1 (by omega) (by kernel_rfl);have e3:vs 3=.agg db:=hw 3 (by omega) (by kernel_rfl);simp only [zq,zh]at ho;subst ho;refine⟨rfl,?_⟩;clear hw;simp only [xzaa,tmpsTo,putT,zr];rw [e1,e3];clear e1 e3;go_simp;refine xzak ((HOP.out u hC.out).mono ?_);rintro e u' ⟨rfl,hbu⟩;exact⟨_,rfl,hbu,rfl⟩
  |5,_,hw,ho=>
   have e4:vs 4=.tuple #[.string s0,.bool b0]:=hw 4 (by omega) (by kernel_rfl);simp only [zq,zh]at ho;subst ho;refine⟨rfl,?_⟩;clear hw;simp only [xzaa,tmpsTo,putT,zr];rw [e4];clear e4;go_simp;exact xzab (Below.refl _ _) rfl
  |6,_,hw,ho=>
   have e5:vs 5=.tuple #[.string s0,.bool b0]:=hw 5 (by omega) (by kernel_rfl);simp only [zq,zh]at ho;subst ho;refine⟨rfl,?_⟩;clear hw;simp only [xzaa,tmpsTo,putT,zr];rw [e5];clear e5;go_simp;exact xzab (Below.refl _ _) rfl
  |7,_,hw,ho=>
   have e5:vs 5=.tuple #[.string s0,.bool b0]:=hw 5 (by omega) (by kernel_rfl);simp only [zq,zh]at ho;subst ho;refine⟨rfl,?_⟩;clear hw;simp only [xzaa,tmpsTo,putT,zr];rw [e5];clear e5;go_simp;exact xzab (Below.refl _ _) rfl
  |8,_,hw,ho=>
   have e6:vs 6=.string s0:=hw 6 (by omega) (by kernel_rfl);simp only [zq,zh]at ho;subst ho;refine⟨rfl,?_⟩;clear hw;simp only [xzaa,tmpsTo,putT,zr];rw [e6];clear e6;go_simp;exact xzab (Below.refl _ _) rfl
  |9,_,hw,ho=>
   have e7:vs 7=.bool b0:=hw 7 (by omega) (by kernel_rfl);simp only [zq,zh]at ho;subst ho;refine⟨rfl,?_⟩;clear hw;simp only [xzaa,tmpsTo,putT,zr];rw [e7];clear e7;go_simp;exact xzab (Below.refl _ _) rfl
  |i+10,hix,_,_=>omega
 intro vs1 wy hC hV;have q6:vs1 8=.string s0:=hV 8 (by omega);have q7:vs1 9=.bool b0:=hV 9 (by omega);clear hV;simp only [xzaa,tmpsTo,putT,zr,List.drop_succ_cons,List.drop_zero];rw [q6,q7];clear q6 q7;generalize vs1 0=g50;generalize vs1 1=g51;generalize vs1 2=g52;generalize vs1 3=g53;generalize vs1 4=g54;generalize vs1 5=g55;generalize vs1 6=g56;generalize vs1 7=g57;have H_wy:=zd (show Below w.heap.size w wy/\DfB wy w.heap.size A.of A.n (.slice An A.next.length cn) (.slice At A.tag.length ct)/\DfB wy (w.heap.size+1) B.of B.n (.slice Bn B.next.length dn) (.slice Bt B.tag.length dt)from⟨H_wz.out.1.trans (hC.out.mono H_wz.out.1.size),H_wz.out.2.1.step hC.out,H_wz.out.2.2.step hC.out⟩);clear hC H_wz HPK HOP HOP0;have HPK:=zd (fun(u:World) (hu:Below wy.heap.size wy u)=>show DfB u w.heap.size A.of A.n (.slice An A.next.length cn) (.slice At A.tag.length ct)/\DfB u (w.heap.size+1) B.of B.n (.slice Bn B.next.length dn) (.slice Bt B.tag.length dt)from⟨H_wy.out.2.1.step hu,H_wy.out.2.2.step hu⟩);have HOP:=zd (fun(u:World) (hu:Below wy.heap.size wy u)=>HOP1.out u (H_wy.out.1.trans (hu.mono H_wy.out.1.size)))
 go_wp2_with fail
 refine xzaf 10 118 (fun u=>Hid (Below wy.heap.size wy u)) (fun _ u u'=>Below u.heap.size u u')
  (fun i v u=>match i with
   |0=>v=.agg da
   |1=>v=.agg da
   |2=>v=.agg db
   |3=>v=.agg db
   |4=>v=.tuple #[.string s1,.bool b1]
   |5=>v=.tuple #[.string s1,.bool b1]
   |6=>v=.string s1
   |7=>v=.bool b1
   |8=>v=.string s1
   |9=>v=.bool b1
   |_=>True) (by kernel_rfl) (by kernel_rfl) rfl (zd (Below.refl _ _).drew) ?_ ?_ ?_ ?_
 ·intro i u u' hix hC hr
  exact zd (hC.out.trans (hr.mono hC.out.size))
 ·intro i j v u u' hix hj hne hv hr
  match i,hix,hne,hv with
  |0,_,_,hv=>exact hv
  |1,_,_,hv=>exact hv
  |2,_,_,hv=>exact hv
  |3,_,_,hv=>exact hv
  |4,_,_,hv=>exact hv
  |5,_,_,hv=>exact hv
  |6,_,_,hv=>exact hv
  |7,_,_,hv=>exact hv
  |8,_,_,hv=>exact hv
  |9,_,_,hv=>exact hv
  |i+10,hix,_,_=>omega
 ·intro i hix vs u hC hw oq ho
  match i,hix,hw,ho with
  |0,_,hw,ho=>
   simp only [zq,zh]at ho;subst ho;refine⟨rfl,?_⟩;clear hw;simp only [xzaa,tmpsTo];rw [xzah 28 (.tmp 2) _ rfl rfl (HLA.out u (HPK.out u hC.out).1)];exact xzab (Below.refl _ _) rfl
  |1,_,hw,ho=>
   have e0:vs 0=.agg da:=hw 0 (by omega) (by kernel_rfl);simp only [zq,zh]at ho;subst ho;refine⟨rfl,?_⟩;clear hw;simp only [xzaa,tmpsTo,putT,zr];rw [e0];clear e0;go_simp;refine xzak ((HOA.out u).mono ?_);rintro e u' ⟨rfl,hbu⟩;exact⟨_,rfl,hbu,rfl⟩
  |2,_,hw,ho=>
   simp only [zq,zh]at ho;subst ho;refine⟨rfl,?_⟩;clear hw;simp only [xzaa,tmpsTo,putT,zr];rw [xzah 28 (.tmp 3) _ rfl rfl (HLB.out u (HPK.out u hC.out).2)];exact xzab (Below.refl _ _) rfl
  |3,_,hw,ho=>
   have e2:vs 2=.agg db:=hw 2 (by omega) (by kernel_rfl);simp only [zq,zh]at ho;subst ho;refine⟨rfl,?_⟩;clear hw;simp only [xzaa,tmpsTo,putT,zr];rw [e2];clear e2;go_simp;refine xzak ((HOB.out u).mono ?_);rintro e u' ⟨rfl,hbu⟩;exact⟨_,rfl,hbu,rfl⟩
  |4,_,hw,ho=>
   have e1:vs 1=.agg da:=hw 1 (by omega) (by kernel_rfl);have e3:vs 3=.agg db:=hw 3 (by omega) (by kernel_rfl);simp only [zq,zh]at ho;subst ho;refine⟨rfl,?_⟩;clear hw;simp only [xzaa,tmpsTo,putT,zr];rw [e1,e3];clear e1 e3;go_simp;refine xzak ((HOP.out u hC.out).mono ?_);rintro e u' ⟨rfl,hbu⟩;exact⟨_,rfl,hbu,rfl⟩
  |5,_,hw,ho=>
   have e4:vs 4=.tuple #[.string s1,.bool b1]:=hw 4 (by omega) (by kernel_rfl);simp only [zq,zh]at ho;subst ho;refine⟨rfl,?_⟩;clear hw;simp only [xzaa,tmpsTo,putT,zr];rw [e4];clear e4;go_simp;exact xzab (Below.refl _ _) rfl
  |6,_,hw,ho=>
   have e5:vs 5=.tuple #[.string s1,.bool b1]:=hw 5 (by omega) (by kernel_rfl);simp only [zq,zh]at ho;subst ho;refine⟨rfl,?_⟩;clear hw;simp only [xzaa,tmpsTo,putT,zr];rw [e5];clear e5;go_simp;exact xzab (Below.refl _ _) rfl
  |7,_,hw,ho=>
   have e5:vs 5=.tuple #[.string s1,.bool b1]:=hw 5 (by omega) (by kernel_rfl);simp only [zq,zh]at ho;subst ho;refine⟨rfl,?_⟩;clear hw;simp only [xzaa,tmpsTo,putT,zr];rw [e5];clear e5;go_simp;exact xzab (Below.refl _ _) rfl
  |8,_,hw,ho=>
   have e6:vs 6=.string s1:=hw 6 (by omega) (by kernel_rfl);simp only [zq,zh]at ho;subst ho;refine⟨rfl,?_⟩;clear hw;simp only [xzaa,tmpsTo,putT,zr];rw [e6];clear e6;go_simp;exact xzab (Below.refl _ _) rfl
  |9,_,hw,ho=>
   have e7:vs 7=.bool b1:=hw 7 (by omega) (by kernel_rfl);simp only [zq,zh]at ho;subst ho;refine⟨rfl,?_⟩;clear hw;simp only [xzaa,tmpsTo,putT,zr];rw [e7];clear e7;go_simp;exact xzab (Below.refl _ _) rfl
  |i+10,hix,_,_=>omega
 intro vs1 wx hC hV;have q6:vs1 8=.string s1:=hV 8 (by omega);have q7:vs1 9=.bool b1:=hV 9 (by omega);clear hV;simp only [xzaa,tmpsTo,putT,zr,List.drop_succ_cons,List.drop_zero];rw [q6,q7];clear q6 q7;generalize vs1 0=g60;generalize vs1 1=g61;generalize vs1 2=g62;generalize vs1 3=g63;generalize vs1 4=g64;generalize vs1 5=g65;generalize vs1 6=g66;generalize vs1 7=g67;have H_wx:=zd (show Below w.heap.size w wx/\DfB wx w.heap.size A.of A.n (.slice An A.next.length cn) (.slice At A.tag.length ct)/\DfB wx (w.heap.size+1) B.of B.n (.slice Bn B.next.length dn) (.slice Bt B.tag.length dt)from⟨H_wy.out.1.trans (hC.out.mono H_wy.out.1.size),H_wy.out.2.1.step hC.out,H_wy.out.2.2.step hC.out⟩);clear hC H_wy HPK HOP HOP1;have HPK:=zd (fun(u:World) (hu:Below wx.heap.size wx u)=>show DfB u w.heap.size A.of A.n (.slice An A.next.length cn) (.slice At A.tag.length ct)/\DfB u (w.heap.size+1) B.of B.n (.slice Bn B.next.length dn) (.slice Bt B.tag.length dt)from⟨H_wx.out.2.1.step hu,H_wx.out.2.2.step hu⟩);have HOP:=zd (fun(u:World) (hu:Below wx.heap.size wx u)=>HOP2.out u (H_wx.out.1.trans (hu.mono H_wx.out.1.size)))
 go_wp2_with fail
 refine xzaf 10 118 (fun u=>Hid (Below wx.heap.size wx u)) (fun _ u u'=>Below u.heap.size u u')
  (fun i v u=>match i with
   |0=>v=.agg da
   |1=>v=.agg da
   |2=>v=.agg db
   |3=>v=.agg db
   |4=>v=.tuple #[.string s2,.bool b2]
   |5=>v=.tuple #[.string s2,.bool b2]
   |6=>v=.string s2
   |7=>v=.bool b2
   |8=>v=.string s2
   |9=>v=.bool b2
   |_=>True) (by kernel_rfl) (by kernel_rfl) rfl (zd (Below.refl _ _).drew) ?_ ?_ ?_ ?_
 ·intro i u u' hix hC hr
  exact zd (hC.out.trans (hr.mono hC.out.size))
 ·intro i j v u u' hix hj hne hv hr
  match i,hix,hne,hv with
  |0,_,_,hv=>exact hv
  |1,_,_,hv=>exact hv
  |2,_,_,hv=>exact hv
  |3,_,_,hv=>exact hv
  |4,_,_,hv=>exact hv
  |5,_,_,hv=>exact hv
  |6,_,_,hv=>exact hv
  |7,_,_,hv=>exact hv
  |8,_,_,hv=>exact hv
  |9,_,_,hv=>exact hv
  |i+10,hix,_,_=>omega
 ·intro i hix vs u hC hw oq ho
  match i,hix,hw,ho with
  |0,_,hw,ho=>
   simp only [zq,zh]at ho;subst ho;refine⟨rfl,?_⟩;clear hw;simp only [xzaa,tmpsTo];rw [xzah 28 (.tmp 2) _ rfl rfl (HLA.out u (HPK.out u hC.out).1)];exact xzab (Below.refl _ _) rfl
  |1,_,hw,ho=>
   have e0:vs 0=.agg da:=hw 0 (by omega) (by kernel_rfl);simp only [zq,zh]at ho;subst ho;refine⟨rfl,?_⟩;clear hw;simp only [xzaa,tmpsTo,putT,zr];rw [e0];clear e0;go_simp;refine xzak ((HOA.out u).mono ?_);rintro e u' ⟨rfl,hbu⟩;exact⟨_,rfl,hbu,rfl⟩
  |2,_,hw,ho=>
   simp only [zq,zh]at ho;subst ho;refine⟨rfl,?_⟩;clear hw;simp only [xzaa,tmpsTo,putT,zr];rw [xzah 28 (.tmp 3) _ rfl rfl (HLB.out u (HPK.out u hC.out).2)];exact xzab (Below.refl _ _) rfl
  |3,_,hw,ho=>
   have e2:vs 2=.agg db:=hw 2 (by omega) (by kernel_rfl);simp only [zq,zh]at ho;subst ho;refine⟨rfl,?_⟩;clear hw;simp only [xzaa,tmpsTo,putT,zr];rw [e2];clear e2;go_simp;refine xzak ((HOB.out u).mono ?_);rintro e u' ⟨rfl,hbu⟩;exact⟨_,rfl,hbu,rfl⟩
  |4,_,hw,ho=>
   have e1:vs 1=.agg da:=hw 1 (by omega) (by kernel_rfl);have e3:vs 3=.agg db:=hw 3 (by omega) (by kernel_rfl);simp only [zq,zh]at ho;subst ho;refine⟨rfl,?_⟩;clear hw;simp only [xzaa,tmpsTo,putT,zr];rw [e1,e3];clear e1 e3;go_simp;refine xzak ((HOP.out u hC.out).mono ?_);rintro e u' ⟨rfl,hbu⟩;exact⟨_,rfl,hbu,rfl⟩
  |5,_,hw,ho=>
   have e4:vs 4=.tuple #[.string s2,.bool b2]:=hw 4 (by omega) (by kernel_rfl);simp only [zq,zh]at ho;subst ho;refine⟨rfl,?_⟩;clear hw;simp only [xzaa,tmpsTo,putT,zr];rw [e4];clear e4;go_simp;exact xzab (Below.refl _ _) rfl
  |6,_,hw,ho=>
   have e5:vs 5=.tuple #[.string s2,.bool b2]:=hw 5 (by omega) (by kernel_rfl);simp only [zq,zh]at ho;subst ho;refine⟨rfl,?_⟩;clear hw;simp only [xzaa,tmpsTo,putT,zr];rw [e5];clear e5;go_simp;exact xzab (Below.refl _ _) rfl
  |7,_,hw,ho=>
   have e5:vs 5=.tuple #[.string s2,.bool b2]:=hw 5 (by omega) (by kernel_rfl);simp only [zq,zh]at ho;subst ho;refine⟨rfl,?_⟩;clear hw;simp only [xzaa,tmpsTo,putT,zr];rw [e5];clear e5;go_simp;exact xzab (Below.refl _ _) rfl
  |8,_,hw,ho=>
   have e6:vs 6=.string s2:=hw 6 (by omega) (by kernel_rfl);simp only [zq,zh]at ho;subst ho;refine⟨rfl,?_⟩;clear hw;simp only [xzaa,tmpsTo,putT,zr];rw [e6];clear e6;go_simp;exact xzab (Below.refl _ _) rfl
  |9,_,hw,ho=>
   have e7:vs 7=.bool b2:=hw 7 (by omega) (by kernel_rfl);simp only [zq,zh]at ho;subst ho;refine⟨rfl,?_⟩;clear hw;simp only [xzaa,tmpsTo,putT,zr];rw [e7];clear e7;go_simp;exact xzab (Below.refl _ _) rfl
  |i+10,hix,_,_=>omega
 intro vs1 wv hC hV;have q6:vs1 8=.string s2:=hV 8 (by omega);have q7:vs1 9=.bool b2:=hV 9 (by omega);clear hV;simp only [xzaa,tmpsTo,putT,zr,List.drop_succ_cons,List.drop_zero];rw [q6,q7];clear q6 q7;generalize vs1 0=g70;generalize vs1 1=g71;generalize vs1 2=g72;generalize vs1 3=g73;generalize vs1 4=g74;generalize vs1 5=g75;generalize vs1 6=g76;generalize vs1 7=g77;have H_wv:=zd (show Below w.heap.size w wv/\DfB wv w.heap.size A.of A.n (.slice An A.next.length cn) (.slice At A.tag.length ct)/\DfB wv (w.heap.size+1) B.of B.n (.slice Bn B.next.length dn) (.slice Bt B.tag.length dt)from⟨H_wx.out.1.trans (hC.out.mono H_wx.out.1.size),H_wx.out.2.1.step hC.out,H_wx.out.2.2.step hC.out⟩);clear hC H_wx HPK HOP HOP2;clear HOA HOB HLA HLB
 go_wp2_with((with_reducible refine xzao rfl (.tmp 2) ?_ ?_ H_wv.out.2.1 ?_);exact rfl;exact rfl;rw [HDC.out.1])
 go_at_call 10
 refine(HMA.out _ H_wv.out.1).mono ?_;rintro e u4 ⟨rfl,hbu⟩;have H_u4:=zd (show Below w.heap.size w u4/\DfB u4 w.heap.size A.of A.n (.slice An A.next.length cn) (.slice At A.tag.length ct)/\DfB u4 (w.heap.size+1) B.of B.n (.slice Bn B.next.length dn) (.slice Bt B.tag.length dt)from⟨H_wv.out.1.trans (hbu.mono H_wv.out.1.size),H_wv.out.2.1.step hbu,H_wv.out.2.2.step hbu⟩);clear hbu HMA H_wv
 cases hma:A.may with
 |false=>
  have hm:(A.may&&B.may)=false:=by rw [hma];rfl
  clear hma;obtain⟨rfl,rfl⟩:=HNO0.out hm;obtain⟨rfl,rfl⟩:=HNO1.out hm;obtain⟨rfl,rfl⟩:=HNO2.out hm;clear HNO0 HNO1 HNO2 HRF0 HRF1 HRF2 hm
  have hee:(⟨#[]⟩:ByteArray)++(⟨#[]⟩:ByteArray)=⟨#[]⟩:=by apply ByteArray.ext;simp
  go_wp2;go_ret;exact⟨by simp,H_u4.out.1⟩
 |true=>
  go_wp2_with((with_reducible refine xzev (.tmp 3) ?_ ?_ H_u4.out.2.2 ?_ ?_);exact rfl;exact rfl;kernel_rfl;rw [HDC.out.2])
  go_at_call 10
  refine(HMB.out _ H_u4.out.1).mono ?_;rintro e u5 ⟨rfl,hbu⟩;have H_u5:=zd (show Below w.heap.size w u5/\DfB u5 w.heap.size A.of A.n (.slice An A.next.length cn) (.slice At A.tag.length ct)/\DfB u5 (w.heap.size+1) B.of B.n (.slice Bn B.next.length dn) (.slice Bt B.tag.length dt)from⟨H_u4.out.1.trans (hbu.mono H_u4.out.1.size),H_u4.out.2.1.step hbu,H_u4.out.2.2.step hbu⟩);clear hbu HMB H_u4
  cases hmb:B.may with
  |false=>
   have hm:(A.may&&B.may)=false:=by rw [hma,hmb];rfl
   clear hma hmb;obtain⟨rfl,rfl⟩:=HNO0.out hm;obtain⟨rfl,rfl⟩:=HNO1.out hm;obtain⟨rfl,rfl⟩:=HNO2.out hm;clear HNO0 HNO1 HNO2 HRF0 HRF1 HRF2 hm
   have hee:(⟨#[]⟩:ByteArray)++(⟨#[]⟩:ByteArray)=⟨#[]⟩:=by apply ByteArray.ext;simp
   go_wp2;go_ret;exact⟨by simp,H_u5.out.1⟩
  |true=>
  have HR0:=zd (HRF0.out hma hmb);have HR1:=zd (HRF1.out hma hmb);have HR2:=zd (HRF2.out hma hmb);clear HRF0 HRF1 HRF2 HNO0 HNO1 HNO2 hma hmb
  go_wp2_with(first
   |((with_reducible refine xzao rfl (.tmp 2) ?_ ?_ H_u5.out.2.1 ?_);exact rfl;exact rfl;rw [HDC.out.1])
   |((with_reducible refine xzao rfl (.tmp 3) ?_ ?_ H_u5.out.2.2 ?_);exact rfl;exact rfl;rw [HDC.out.2]))
  go_at_call 15
  refine(HR0.out _ H_u5.out.1).mono ?_;rintro e u6 ⟨rfl,hbu⟩;have H_u6:=zd (show Below w.heap.size w u6/\DfB u6 w.heap.size A.of A.n (.slice An A.next.length cn) (.slice At A.tag.length ct)/\DfB u6 (w.heap.size+1) B.of B.n (.slice Bn B.next.length dn) (.slice Bt B.tag.length dt)from⟨H_u5.out.1.trans (hbu.mono H_u5.out.1.size),H_u5.out.2.1.step hbu,H_u5.out.2.2.step hbu⟩);clear hbu HR0 H_u5
  go_wp2_with(first
   |((with_reducible refine xzao rfl (.tmp 2) ?_ ?_ H_u6.out.2.1 ?_);exact rfl;exact rfl;rw [HDC.out.1])
   |((with_reducible refine xzao rfl (.tmp 3) ?_ ?_ H_u6.out.2.2 ?_);exact rfl;exact rfl;rw [HDC.out.2]))
  go_at_call 15
  refine(HR1.out _ H_u6.out.1).mono ?_;rintro e u7 ⟨rfl,hbu⟩;have H_u7:=zd (show Below w.heap.size w u7/\DfB u7 w.heap.size A.of A.n (.slice An A.next.length cn) (.slice At A.tag.length ct)/\DfB u7 (w.heap.size+1) B.of B.n (.slice Bn B.next.length dn) (.slice Bt B.tag.length dt)from⟨H_u6.out.1.trans (hbu.mono H_u6.out.1.size),H_u6.out.2.1.step hbu,H_u6.out.2.2.step hbu⟩);clear hbu HR1 H_u6
  go_wp2_with(first
   |((with_reducible refine xzao rfl (.tmp 2) ?_ ?_ H_u7.out.2.1 ?_);exact rfl;exact rfl;rw [HDC.out.1])
   |((with_reducible refine xzao rfl (.tmp 3) ?_ ?_ H_u7.out.2.2 ?_);exact rfl;exact rfl;rw [HDC.out.2]))
  go_at_call 15
  refine(HR2.out _ H_u7.out.1).mono ?_;rintro e u8 ⟨rfl,hbu⟩;have H_u8:=zd (show Below w.heap.size w u8/\DfB u8 w.heap.size A.of A.n (.slice An A.next.length cn) (.slice At A.tag.length ct)/\DfB u8 (w.heap.size+1) B.of B.n (.slice Bn B.next.length dn) (.slice Bt B.tag.length dt)from⟨H_u7.out.1.trans (hbu.mono H_u7.out.1.size),H_u7.out.2.1.step hbu,H_u7.out.2.2.step hbu⟩);clear hbu HR2 H_u7;go_wp2;go_ret;exact⟨by simp,H_u8.out.1⟩
end
end Go.Proofs.YtdjpphjpnkfeiaaGreatDoor
