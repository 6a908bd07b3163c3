/-
 WHERE A STATE LEADS TO, BY ROWS OF PLACES: what the maker's reach and takes have in common is the step; rows compared. No condition but those of each theorem.
-/
import Derived.Maps.OwnSet
import Derived.RangeFuncBox
import Derived.Test.YtgbljnnmhmlifaaGreatDoorQG34
import Derived.Test.YtgbljnnmhmlifaaGreatDoorQG30
import Derived.Test.YtgbljnnmhmlifaaGreatDoorQG31
namespace Go.Proofs.YtgbljnnmhmlifaaGreatDoor
section
open Go.RowKit
theorem xzki (fol:List (Nat->Bool))(f r:Nat->Bool)(q:Nat):∀ n,behindTo fol f r n q=(r q||(List.range n).any fun p=>f p&&(fol.getD p fun _=>false) q)
 |0=>by simp [behindTo]
 |n+1=>by
  rw [List.range_succ,List.any_append,<-Bool.or_assoc,<-xzki fol f r q n];simp only [behindTo,List.any_cons,List.any_nil,Bool.or_false]
  cases h:f n
  ·simp
  ·simp [sOr]
theorem xznj (N:Nf)(hin:∀ p∈N.first,0<=p)(q:Nat):∀ k,k<=N.first.length->firstTo N k q=hasI (N.first.take k) q
 |0,_=>by simp [firstTo,hasI]
 |k+1,h=>by
  have hk:k<N.first.length:=h;obtain⟨x,hx⟩:=Int.eq_ofNat_of_zero_le (hin _ (List.getElem_mem hk));rw [xzqg _ _ hk,<-xznj N hin q k (by omega)]
  have hg:N.first.getD k 0=(x:Int):=by rw [List.getD_eq_getElem?_getD,List.getElem?_eq_getElem hk];exact hx
  simp only [firstTo,plus,hg,hx]
  congr 1
  rw [Bool.eq_iff_iff];simp only [beq_iff_eq,decide_eq_true_eq];omega
theorem xzyb (N:Nf)(hmi:MayIs N)(x:List Int)(hx:∀ p∈x,0<=p/\p<(N.sets.length:Int))(q:Nat):((List.range N.follow.length).any fun p=>setOf x p&&((N.follow.map setOf).getD p fun _=>false) q)=markF N x q:=by
 rw [Bool.eq_iff_iff,List.any_eq_true];unfold markF;rw [List.any_eq_true]
 constructor
 ·rintro⟨p,hp,h⟩
  rw [Bool.and_eq_true]at h;have hp':=List.mem_range.1 hp;refine⟨(p:Int),hasI_mem.1 h.1,?_⟩
  have e:(N.follow.map setOf).getD p (fun _=>false)=setOf (N.followAt (p:Int)):=by
   unfold Nf.followAt;rw [List.getD_eq_getElem?_getD,List.getElem?_map,List.getElem?_eq_getElem hp',Int.toNat_natCast,List.getD_eq_getElem?_getD,List.getElem?_eq_getElem hp'];rfl
  rw [e]at h;exact h.2
 ·rintro⟨p,hp,h⟩
  obtain⟨pn,rfl⟩:=Int.eq_ofNat_of_zero_le (hx p hp).1
  have hlt:pn<N.follow.length:=by have:=(hx _ hp).2;rw [hmi.follow];omega
  refine⟨pn,List.mem_range.2 hlt,?_⟩
  have e:(N.follow.map setOf).getD pn (fun _=>false)=setOf (N.followAt (pn:Int)):=by
   unfold Nf.followAt;rw [List.getD_eq_getElem?_getD,List.getElem?_map,List.getElem?_eq_getElem hlt,Int.toNat_natCast,List.getD_eq_getElem?_getD,List.getElem?_eq_getElem hlt];rfl
  rw [e,Bool.and_eq_true];exact⟨hasI_mem.2 hp,h⟩
theorem yzck (n:Nat)(f:Nat->Bool)(N:Nf)(b q:Nat):hasI (keepTo n f N b) q=(decide (q<n)&&(f q&&N.setAt q b)):=by
 rw [Bool.eq_iff_iff,hasI_mem];unfold keepTo
 constructor
 ·intro h
  obtain⟨q',hq,e⟩:=List.mem_map.1 h
  have:q'=q:=by omega
  subst this;have:=List.mem_filter.1 hq;rw [decide_eq_true (List.mem_range.1 this.1),this.2];rfl
 ·intro h
  simp only [Bool.and_eq_true,decide_eq_true_eq]at h;exact List.mem_map.2 ⟨q,List.mem_filter.2 ⟨List.mem_range.2 h.1,by simp [h.2]⟩,rfl⟩
def reachOf (N:Nf)(L:List (List Int))(at':Nat):Nat->Bool:=behindTo (N.follow.map setOf) (setOf (L.getD at' [])) (if at'=0 then firstTo N N.first.length else fun _=>false) (N.follow.map setOf).length
theorem yzgs (N:Nf)(hmi:MayIs N)(L:List (List Int))(at' b:Nat)(hx:∀ p∈L.getD at' [],0<=p/\p<(N.sets.length:Int))(q:Nat):
 sAnd (reachOf N L at') (takesTo N b N.sets.length) q=setOf (stepX N L at' b) q:=by
 unfold sAnd reachOf stepX;unfold setOf at*
 show(_&&takesTo N b N.sets.length q)=hasI _ q
 rw [yzck];rw [show((N.follow.map fun(x:List Int) (p:Nat)=>hasI x p).length)=N.follow.length by simp];rw [xzki];have hm:=xzyb N hmi (L.getD at' []) hx q;unfold setOf at hm;rw [hm];unfold marksS marks0 takesTo
 by_cases h0:at'=0
 ·rw [if_pos h0,decide_eq_true h0,xznj N (fun p hp=>(hmi.firsts.1 p hp).1) q _ (Nat.le_refl _),List.take_length]
  cases hasI N.first q<;>cases markF N (L.getD at' []) q<;>cases decide (q<N.sets.length)<;>cases N.setAt (q:Int) b<;>rfl
 ·rw [if_neg h0,decide_eq_false h0]
  cases markF N (L.getD at' []) q<;>cases decide (q<N.sets.length)<;>cases N.setAt (q:Int) b<;>rfl
theorem eqItemsW (d:Nat)(xs ys:Array Value)(F G:Nat->Nat)(w:World):∀ js:List Nat,(∀ j∈js,xs[j]? =some (.int .u64 (F j))/\ys[j]? =some (.int .u64 (G j)))->
 (Op.eqItems (d+1) 45 1 xs ys js).run Tryz.prog w=.ok (js.all fun j=>decide (F j=G j)) w
 |[],_=>by simp [Op.eqItems]
 |j::js,h=>by
  have h5:=run_equalIn_int (P:=Tryz.prog) w d 45 .u64 .u64 (F j) (G j) Tryz.underlying45
  have ih:=eqItemsW d xs ys F G w js fun k hk=>h k (by simp [hk])
  have h1:=part59 (off:=j*1) (by rw [Nat.mul_one];exact(h j (by simp)).1) w;have h2:=part59 (off:=j*1) (by rw [Nat.mul_one];exact(h j (by simp)).2) w;simp only [Op.eqItems,Sem.run_bind,h1,h2,h5,Result.andThen_ok]
  by_cases e:F j=G j
  ·simp [e,ih]
  ·have e2:(((F j:Nat):Int)==((G j:Nat):Int))=false:=by simp;omega
   simp [e,e2]
theorem xzpe {d:Nat}{xs ys:Array Value}{fs:List Field}{ta o0:Nat}(h:fs.map (fun f=>(decide (f.name≠ "_"),f.type,f.offset))=[(true,ta,o0)])
 {w:World} {a b:Value} {r:Bool} (h1:(part ta xs o0).run Tryz.prog w=.ok a w) (h2:(part ta ys o0).run Tryz.prog w=.ok b w) (h3:(Op.equalIn d ta a b).run Tryz.prog w=.ok r w):
 (Op.eqFields d xs ys fs).run Tryz.prog w=.ok r w:=by
 rcases fs with _|⟨f0,_|⟨f1,fs⟩⟩
 ·simp at h
 ·simp only [List.map_cons,List.map_nil,List.cons.injEq,Prod.mk.injEq,and_true]at h
  obtain⟨g1,g2,g3⟩:=h;have g1':f0.name≠ "_" :=of_decide_eq_true g1;simp only [Op.eqFields,if_pos g1',g2,g3,Sem.run_bind,h1,h2,h3,Result.andThen_ok]
  cases r<;>simp
 ·simp at h
theorem partRw (f:Nat->Bool)(w:World):(part 63 (rowA f) 0).run Tryz.prog w=.ok (.agg (rowA f)) w:=by
 kernel_rfl
def emptyW (f:Nat->Bool):Bool:=(List.range 32).all fun k=>decide (wd f k=wd (fun _=>false) k)
theorem yzeg (f:Nat->Bool)(w:World):(binOp .eql 65 (.agg (rowA f)) (.agg (rowA fun _=>false))).run Tryz.prog w=.ok (.bool (emptyW f)) w:=by
 have h:(Op.equalIn 10000 65 (.agg (rowA f)) (.agg (rowA fun _=>false))).run Tryz.prog w=.ok (emptyW f) w:=by
  rw [run_equalIn_struct (P:=Tryz.prog) w 9999 65 _ _ (by kernel_rfl) (by kernel_rfl)];obtain⟨i,hi⟩:∃ i,Tryz.prog.info? 45=some i:=Option.isSome_iff_exists.1 (by kernel_rfl)
  have hc:Tryz.prog.cellsOf 45=1:=by kernel_rfl
  have harr:=run_equalIn_array (P:=Tryz.prog) w 9998 (rowA f) (rowA fun _=>false) Tryz.underlying63 hi;rw [hc,eqItemsW 9997 (rowA f) (rowA fun _=>false) (wd f) (wd fun _=>false) w (List.range 32) (fun j hj=>⟨xzgi f (List.mem_range.1 hj),xzgi _ (List.mem_range.1 hj)⟩)]at harr;exact xzpe (by kernel_rfl) (partRw f w) (partRw _ w) harr
 rw [run_eql_struct,h];rfl
theorem xznk (N:Nf)(hn:N.sets.length<=2000)(x:List Int)(hx:Kept N x):emptyW (setOf x)=decide (x=[]):=by
 rw [Bool.eq_iff_iff,decide_eq_true_eq];unfold emptyW;rw [List.all_eq_true]
 constructor
 ·intro h
  rcases hx with e|⟨f,b,e⟩
  ·exact e
  ·cases hxx:x with
   |nil=>rfl
   |cons a r=>
    exfalso
    have hm:a∈x:=by rw [hxx];simp
    rw [e]at hm;have hin:=xzuy a hm;obtain⟨p,rfl⟩:=Int.eq_ofNat_of_zero_le hin.1;have h1:=h (p / 64) (List.mem_range.2 (by omega));simp only [decide_eq_true_eq]at h1;have h2:=xzsq h1 (j:=p%64) (by omega);rw [show 64*(p / 64)+p%64=p by omega]at h2;have h3:setOf x p=true:=hasI_mem.2 (by rw [e];exact hm);rw [h3]at h2;cases h2
 ·rintro rfl k _
  simp only [decide_eq_true_eq]
  exact xzbg fun j _=>rfl
end
section
open Go.RowKit
theorem xzbk {ops:Array Oper}{rest:List Oper}{o:Oper}{a:Act}{w:World}{Q:Exit->Act->World->Prop}(hg:o.guard=none)(t:TypeId)(parts:Array (Nat×Operand))(ho:o.op=.build t parts){cells:Array Value}
 (hc:Tryz.prog.built t (parts.map fun(i,x)=>(i,a.eval x)).toList=some cells)(h:wpList Tryz.prog ops Q rest (a.put o.dst (.agg cells)) w):wpList Tryz.prog ops Q (o::rest) a w:=
 wpList_plain hg fun _ hK=>wp_build t parts ho (by rw [hc];rfl) (by rw [hc];exact hK _ _ h)
section
variable {w : World} {g : Nat} {t : TypeId} {f : Nat → Nat} {n : Int}
theorem loadVarC (h:BlkIs w g t (clsC f n)):(loadVar 36 ⟨g,0,none⟩).run Tryz.prog w=.ok (.agg (clsC f n)) w:=by
 have:=run_loadVar_mid (P:=Tryz.prog) w g 0 36 (clsC f n).toList _ h.range Tryz.underlying36 rfl (by rw [infoC,Array.length_toList,xzaj])
 rwa [Array.toArray_toList]at this
end
def memC (f:Nat->Nat)(n k:Int)(b:Nat):Bool:=mayB f n&&decide (((f b:Nat):Int)=k)
theorem clsBy {w:World}{g k:Nat}{t:TypeId}{f:Nat->Nat}{n:Int}(h:BlkIs w g t (clsC f n))(hk:k<256):w.cell? ⟨g,k,none⟩=some (.int .u8 (f k)):=(h.cell k).trans (xzro f n hk)
end
section
open Go.RowKit
theorem yzeh {m:Nat->Bool}{t x:Nat}(h:x∈mems m t):x<t:=by
 unfold mems at h;exact List.mem_range.1 (List.mem_filter.1 h).1
theorem yzgt (m:Nat->Bool){b:Nat}(hb:b<256):sOf (mems m 256) b=m b:=by
 unfold sOf mems;rw [Bool.eq_iff_iff,decide_eq_true_iff,List.mem_filter,List.mem_range];exact⟨fun h=>h.2,fun h=>⟨hb,h⟩⟩
theorem xzir {w w':World}{g:Nat}{t:TypeId}{cs:Array Value}{row:Option Nat}(h:BlkIs w g t cs)(hg:w.grownBy w' row)(hne:some g≠row):BlkIs w' g t cs:=(hg.block g h.lt hne).trans h
theorem own_low {w:World}{base:Nat}{e:TypeId}{size:Nat}{v:Value}{n:Nat}{xs:List Value}(h:w.ownsRow base e size v n xs){b:Nat}(hb:b<base):some b≠v.ownBlock:=fun e1=>by
 have:=(h.lt b e1.symm).1;omega
theorem yzcl {m:Nat->Bool}{b:Nat}(h:m b=false):mems m (b+1)=mems m b:=xzuq (Nat.le_succ b) fun c h1 h2=>by
 obtain rfl:c=b:=by omega
 exact h
theorem xzrx {m:Nat->Bool}{b:Nat}(h:m b=true):mems m (b+1)=mems m b++[b]:=xzqc (Nat.le_refl b) (fun c h1 h2=>absurd h2 (by omega)) h
set_option maxRecDepth 100000 in
set_option maxHeartbeats 2000000 in
theorem xztz (f:Nat->Nat)(n k:Int)(hf:∀ b,b<256->f b<256)(w:World):
 Calls Tryz.prog 76 #[.agg (clsC f n),.int .i64 k] w fun e w'=>e=.returned (setV (memC f n k))/\Below w.heap.size w w':=by
 obtain⟨i0,hi,hz0,hz1,hz2⟩:=info_parts info5;have HM:=zd (xznc f n hf);have HF:=zd hf;have HI:=zd hi;clear hf hi;have hb:=(BlkIs.new w 36 (clsC f n)).alloc (.cells #[.int .u64 0,.int .u64 0,.int .u64 0,.int .u64 0] 47);have hr:=BlkIs.new (w.alloc (.cells (clsC f n) 36)) 47 #[.int .u64 0,.int .u64 0,.int .u64 0,.int .u64 0];rw [World.size_alloc]at hr;have hB:=((Below.refl w.heap.size w).alloc (Nat.le_refl _) (.cells (clsC f n) 36)).alloc (by simp) (.cells #[.int .u64 0,.int .u64 0,.int .u64 0,.int .u64 0] 47);have HB:=zd hb;have HR:=zd hr;have HBe:=zd hB;clear hb hr hB
 cases hm:mayB f n
 ·have hnone:∀ b,b<256->memC f n k b=(fun _=>false) b:=fun b _=>by unfold memC;rw [hm];rfl
  have hset:=xzhk hnone
  have h0:setV (fun _=>false)=.agg #[.int .u64 0,.int .u64 0,.int .u64 0,.int .u64 0]:=by
   have:=xzpz;rw [sOf_nil]at this;unfold setV;rw [this 0,this 1,this 2,this 3];rfl
  rw [hset,h0];rw [hm]at HM;clear hset h0 hnone
  go_enter Tryz.func76,Tryz.ntmps76
  go_wp2_with(first
   |refine xzbs rfl (.tmp 2) rfl rfl HB.out ?_
   |(go_at_call 48;refine(HM.out _).mono ?_;rintro e w2 ⟨rfl,hb2⟩;have hbx:=HR.out.step hb2;obtain⟨c0,c1,c2,c3,f0,f1,f2,f3⟩:=hbx.four))
  have hB:=HBe.out.trans (hb2.mono HBe.out.size);refine bodyPost_ret (v:=.agg #[.int .u64 0,.int .u64 0,.int .u64 0,.int .u64 0]) (by simp [results,Tryz.results76,go_sem,c0,c1,c2,c3]) rfl ⟨rfl,?_⟩;exact(((hB.setCell (p:=⟨w.heap.size+1,0,none⟩) (Nat.le_succ _) _).setCell (p:=⟨w.heap.size+1,1,none⟩) (Nat.le_succ _) _).setCell (p:=⟨w.heap.size+1,2,none⟩) (Nat.le_succ _) _).setCell (p:=⟨w.heap.size+1,3,none⟩) (Nat.le_succ _) _
 ·have hmem:∀ b,memC f n k b=(((f b:Nat):Int)==k):=fun b=>by unfold memC;rw [hm,Bool.true_and,Bool.eq_iff_iff];simp
  rw [hm]at HM;have HE:=zd hmem;clear hmem
  go_enter Tryz.func76,Tryz.ntmps76
  go_wp2_with(first
   |refine xzbs rfl (.tmp 2) rfl rfl HB.out ?_
   |(go_at_call 48;refine(HM.out _).mono ?_;rintro e w2 ⟨rfl,hb2⟩;have HB2:=zd (And.intro (HB.out.step hb2) (And.intro (HR.out.step hb2) (HBe.out.trans (hb2.mono HBe.out.size))));have HZ2:=zd (Nat.le_trans (Nat.le_of_eq (World.size_alloc _ _).symm) hb2.size);clear hb2 HB HR HBe))
  have hsz:w.heap.size+2<=w2.heap.size:=HB2.out.2.1.lt
  go_loopw [5,11] (fun v i wr=>∃ b:Nat,b<=256/\i=.int .i64 b/\Hid (wr.ownsRow (w.heap.size+2) 5 1 v (mems (memC f n k) b).length ((mems (memC f n k) b).map fun(x:Nat)=>Value.int .u8 (x:Int))/\
   BlkIs wr w.heap.size 36 (clsC f n)/\BlkIs wr (w.heap.size+1) 47 #[.int .u64 0,.int .u64 0,.int .u64 0,.int .u64 0]/\Below w.heap.size w wr/\w.heap.size+2<=wr.heap.size)) (fun _ i _=>256 - (intOf i).toNat)
  case atStart=>
   exact⟨0,by omega,rfl,zd ⟨World.ownsRow_nil _ _ _ _,HB2.out.1,HB2.out.2.1,HB2.out.2.2,hsz⟩⟩
  case round=>
   obtain⟨b,hb,rfl,HH⟩:=hrel
   by_cases hlt:b<256
   ·have hcell:=clsBy HH.out.2.1 hlt
    have hfk:=HF.out b hlt
    have hw:IntKind.i64.wrap ((f b:Nat):Int)=(f b:Nat):=by rw [IntKind.wrap_i64];omega
    have hwb:IntKind.u8.wrap ((b:Nat):Int)=(b:Nat):=by rw [IntKind.wrap_u8];omega
    have hlen:=xzoz (memC f n k) b
    cases hkb:memC f n k b
    ·have hd:(((f b:Nat):Int)==k)=false:=by rw [<-HE.out];exact hkb
     go_wp2;exact⟨⟨b+1,by omega,by go_num,by rw [yzcl hkb];exact HH⟩,by simp [intOf];omega⟩
    ·have hd:(((f b:Nat):Int)==k)=true:=by rw [<-HE.out];exact hkb
     have hrow:=HH.out.1;have hws:=HH.out.2.2.2.2;have hi:=HI.out
     go_wp2_with(at_builtin;refine wpList_append_own _ rfl _ _ 150 rfl (w.heap.size+2) 5 i0 (.int .u8 0) 1 1 Tryz.underlying150 hi hz0 hz1 hz2 rfl (by decide) _ _ _ rfl (hrow.alloc _) ⟨wr.heap.size,0,none⟩ 1 1 [.int .u8 (b:Nat)] rfl rfl (cell_one_new _ _ _) (by simp [Value.oneCell']) (by unfold maxLen;omega) (by omega) (by simp;omega) ?_;intro v' w3 hown' hgrow _)
     have hne:=fun g (hg:g<w.heap.size+2)=>own_low hrow hg
     have hb1:=xzir (HH.out.2.1.alloc _) hgrow (hne _ (by omega));have hb2:=xzir (HH.out.2.2.1.alloc _) hgrow (hne _ (by omega))
     have hB3:Below w.heap.size w w3:=(HH.out.2.2.2.1.alloc (by omega) _).grown hgrow (by simp;omega) (fun r e=>by
      rcases Nat.lt_or_ge r w.heap.size with h|h
      ·exact absurd e.symm (hne r (by omega))
      ·exact h)
     have hsz3:=hgrow.size;rw [World.size_alloc]at hsz3;refine⟨⟨b+1,by omega,by go_num,?_⟩,by simp [intOf];omega⟩;rw [xzrx hkb,List.length_append,List.map_append];exact zd ⟨hown',hb1,hb2,hB3,by omega⟩
   ·obtain rfl:b=256:=by omega
    obtain⟨hrow,hb1,hb2,hB3,_⟩:=HH.out;obtain⟨A,c,rfl,hbr⟩:=xzke hrow
    have hset:setV (sOf (mems (memC f n k) 256))=setV (memC f n k):=xzhk fun i hi=>yzgt _ hi
    have hl:∀ x∈mems (memC f n k) 256,x<256:=fun x hx=>yzeh hx
    have hlen:=xzoz (memC f n k) 256;have HO:=zd (of_any A c (mems (memC f n k) 256) wr hbr hl (by omega));rw [hset]at HO;have H2:=zd hb2;have H4:=zd hB3;clear hrow hbr hb1 hb2 hB3 HH hl hset
    go_wp2_with(first
     |(go_at_call 93;refine HO.out.mono ?_;rintro e w4 ⟨rfl,hb4⟩;have hbx:=H2.out.step hb4;obtain⟨c0,c1,c2,c3,f0,f1,f2,f3⟩:=hbx.four))
    have hB:=H4.out.trans (hb4.mono H4.out.size);refine bodyPost_ret (v:=setV (memC f n k)) (by simp [results,Tryz.results76,go_sem,c0,c1,c2,c3]) rfl ⟨rfl,?_⟩;exact(((hB.setCell (p:=⟨w.heap.size+1,0,none⟩) (Nat.le_succ _) _).setCell (p:=⟨w.heap.size+1,1,none⟩) (Nat.le_succ _) _).setCell (p:=⟨w.heap.size+1,2,none⟩) (Nat.le_succ _) _).setCell (p:=⟨w.heap.size+1,3,none⟩) (Nat.le_succ _) _
set_option maxRecDepth 100000 in
set_option maxHeartbeats 1000000 in
theorem xzpf (f:Nat->Nat)(n k:Int)(hf:∀ b,b<256->f b<256)(w:World)(hT:Tab w):
 Calls Tryz.prog 43 #[.agg (clsC f n),.int .i64 k] w fun e w'=>e=.returned (.int .i64 (nextS (memC f n k) 0))/\Below w.heap.size w w':=by
 have HM:=zd (xztz f n k hf);have HB:=zd (BlkIs.new w 36 (clsC f n));have HBe:=zd ((Below.refl w.heap.size w).alloc (Nat.le_refl _) (.cells (clsC f n) 36));have HT:=zd hT;have HN:=zd (yzgl (memC f n k) 0 (by omega));clear hT hf;generalize memC f n k=m at*
 go_enter Tryz.func43,Tryz.ntmps43
 go_wp2_with(first
  |refine xzbs rfl (.tmp 2) rfl rfl HB.out ?_
  |(go_at_call 76;refine(HM.out _).mono ?_;rintro e w2 ⟨rfl,hb2⟩)
  |(go_at_call 75;refine(HN.out _ (HT.out.step (HBe.out.trans (hb2.mono HBe.out.size)))).mono ?_;rintro e w3 ⟨rfl,hb3⟩))
 go_ret;have hB:=HBe.out.trans (hb2.mono HBe.out.size);exact⟨rfl,hB.trans (hb3.mono hB.size)⟩
end
section
open Go.RowKit
def setL (m:Nat->Bool):List Value:=[.int .u64 (wd m 0:Nat),.int .u64 (wd m 1:Nat),.int .u64 (wd m 2:Nat),.int .u64 (wd m 3:Nat)]
def SetRow (w:World)(B:Nat)(A:Option Addr)(ms:List (Nat->Bool)):Prop:=
 ms≠[]->∃ b off,A=some ⟨b,off,none⟩/\b<B/\∀ (k:Nat) (m:Nat->Bool),ms[k]? =some m->w.rangeAt b (off+k*4) (setL m)
theorem xzgu {B:Nat}{w w':World}(hb:Below B w w'){b o:Nat}{l:List Value}(h:b<B)(hr:w.rangeAt b o l):w'.rangeAt b o l:=fun j v hv=>by
 rw [hb.cell (p:=⟨b,o+j,none⟩) h];exact hr j v hv
theorem SetRow.below {w w':World}{B:Nat}{A:Option Addr}{ms:List (Nat->Bool)}(h:SetRow w B A ms)(hb:Below B w w'):SetRow w' B A ms:=fun hne=>by
 obtain⟨b,off,rfl,hlt,hc⟩:=h hne;exact⟨b,off,rfl,hlt,fun k m hk=>xzgu hb hlt (hc k m hk)⟩
theorem SetRow.wide {w:World}{B B':Nat}{A:Option Addr}{ms:List (Nat->Bool)}(h:SetRow w B A ms)(hB:B<=B'):SetRow w B' A ms:=fun hne=>by
 obtain⟨b,off,rfl,hlt,hc⟩:=h hne;exact⟨b,off,rfl,by omega,hc⟩
theorem infoS:(Tryz.prog.info? 47).map (·.size)=some 4:=by kernel_rfl
theorem xzpg {ops:Array Oper}{rest:List Oper}{op:Oper}{a:Act}{w:World}{Q:Exit->Act->World->Prop}{b o:Nat}{m:Nat->Bool}(hgd:op.guard=none)(x:Operand)(ho:op.op=.load 47 x)
 (hx:a.eval x=.pointer (some ⟨b,o,none⟩))(h:w.rangeAt b o (setL m))(hK:wpList Tryz.prog ops Q rest (a.put op.dst (setV m)) w):wpList Tryz.prog ops Q (op::rest) a w:=
 wpList_load_mid hgd 47 x ho b o hx (setL m) _ h Tryz.underlying47 rfl (by rw [infoS];rfl) hK
def rowR (f:Nat->Nat)(P:Nat->Nat->Bool)(i:Nat):Nat:=if i%2=0 then f (i / 2)else wd (fun j=>P j (i / 2)) 0
def rowK (f:Nat->Nat)(k i:Nat):Nat:=if i%2=0/\i / 2<k then f (i / 2)else 0
def partBr (ms:List (Nat->Bool))(i:Nat)(l:List Nat)(j b:Nat):Bool:=if j<i then(ms.getD j fun _=>false) b else if j=i then decide (b∈l)else false
def allP (ms:List (Nat->Bool))(j b:Nat):Bool:=(ms.getD j fun _=>false) b
theorem yzgu (f:Nat->Nat){k:Nat}:(rowC (rowK f k)).setIfInBounds (k*2) (.int .u64 (f k:Nat))=rowC (rowK f (k+1)):=by
 rw [xzxg]
 refine xzdb fun i _=>?_
 unfold updN rowK
 by_cases e:i=k*2
 ·subst e;simp
 ·rw [if_neg e]
  by_cases h:i%2=0/\i / 2<k
  ·rw [if_pos h,if_pos (by omega)]
  ·rw [if_neg h,if_neg (by omega)]
theorem yzgv (f:Nat->Nat)(ms:List (Nat->Bool)):rowC (rowK f 256)=rowC (rowR f (partBr ms 0 [])):=xzdb fun i hi=>by
 unfold rowK rowR
 by_cases h:i%2=0
 ·rw [if_pos ⟨h,by omega⟩,if_pos h]
 ·rw [if_neg (by omega),if_neg h]
  have e:(fun j=>partBr ms 0 [] j (i / 2))=sOf []:=by
   funext j
   simp [partBr,sOf]
  rw [e,xzpz]
theorem yzgw (f:Nat->Nat)(ms:List (Nat->Bool))(i:Nat)(l:List Nat)(x:Nat):
 (rowC (rowR f (partBr ms i l))).setIfInBounds (x*2+1) (.int .u64 (wd (fun j=>partBr ms i (l++[x]) j x) 0:Nat))=rowC (rowR f (partBr ms i (l++[x]))):=by
 rw [xzxg]
 refine xzdb fun q _=>?_
 unfold updN rowR
 by_cases e:q=x*2+1
 ·subst e
  have h2:(x*2+1) / 2=x:=by omega
  simp [h2]
 ·rw [if_neg e]
  by_cases h:q%2=0
  ·rw [if_pos h,if_pos h]
  ·rw [if_neg h,if_neg h]
   have hx:q / 2≠x:=by omega
   refine xzbg fun j _=>?_
   unfold partBr
   simp [hx]
theorem yzcm (ms:List (Nat->Bool))(i:Nat)(l:List Nat)(x j:Nat):partBr ms i (l++[x]) j x=(partBr ms i l j x||decide (j=i)):=by
 unfold partBr
 by_cases h1:j<i
 ·have: ¬ j=i:=by omega
  simp [h1,this]
 ·by_cases h2:j=i<;>simp [h2]
theorem xzyc (f:Nat->Nat){ms:List (Nat->Bool)}{i:Nat}{m:Nat->Bool}(h:ms[i]? =some m):rowC (rowR f (partBr ms i (mems m 256)))=rowC (rowR f (partBr ms (i+1) [])):=xzdb fun q hq=>by
 unfold rowR
 split
 ·rfl
 ·refine xzbg fun j _=>?_
  unfold partBr
  by_cases h1:64*0+j<i
  ·rw [if_pos h1,if_pos (by omega)]
  ·rw [if_neg h1]
   by_cases h2:64*0+j=i
   ·rw [if_pos h2,if_pos (by omega),h2,List.getD_eq_getElem?_getD,h]
    unfold mems;rw [Bool.eq_iff_iff,decide_eq_true_iff,List.mem_filter,List.mem_range];exact⟨fun h=>h.2,fun h=>⟨by omega,h⟩⟩
   ·rw [if_neg h2,if_neg (by omega)]
    simp
theorem yzcn (f:Nat->Nat)(ms:List (Nat->Bool)):rowC (rowR f (partBr ms ms.length []))=rowC (rowR f (allP ms)):=xzdb fun q _=>by
 unfold rowR
 split
 ·rfl
 ·refine xzbg fun j _=>?_
  unfold partBr allP
  by_cases h1:64*0+j<ms.length
  ·rw [if_pos h1]
  ·rw [if_neg h1,List.getD_eq_getElem?_getD,List.getElem?_eq_none (by omega)]
   simp
theorem ByteRow.farRow {w:World}{B g i:Nat}{t:TypeId}{R:Nat->Nat}{A:Option Addr}{l:List Nat}(h:ByteRow w B A l)(hb:BlkIs w g t (rowC R))(v:Value):ByteRow (w.setCell ⟨g,i,none⟩ v) B A l:=fun hl=>by
 obtain⟨b,off,rfl,hlt,hc⟩:=h hl
 have hne:b≠g:=fun e=>by
  obtain⟨x,hx⟩:∃ x,l[0]? =some x:=by
   cases l with
   |nil=>exact absurd rfl hl
   |cons x r=>exact⟨x,rfl⟩
  have h0:=hc 0 x hx;rw [e,hb.cell]at h0
  rcases Nat.lt_or_ge (off+0) 512 with h1|h1
  ·rw [xzlg R h1]at h0
   simp at h0
  ·rw [Array.getElem?_eq_none (by rw [xzdr];exact h1)]at h0
   cases h0
 refine⟨b,off,rfl,hlt,fun k x hk=>?_⟩;have:=hc k x hk;unfold World.cell? at this ⊢;rw [Below.heap_setCell w ⟨g,i,none⟩ v b hne];exact this
theorem loadVarW {w:World}{g:Nat}{t:TypeId}{R:Nat->Nat}(h:BlkIs w g t (rowC R)):(loadVar 142 ⟨g,0,none⟩).run Tryz.prog w=.ok (.agg (rowC R)) w:=by
 have:=run_loadVar_mid (P:=Tryz.prog) w g 0 142 (rowC R).toList _ h.range Tryz.underlying142 rfl (by rw [infoW,Array.length_toList,xzdr])
 rwa [Array.toArray_toList]at this
set_option maxRecDepth 100000 in
set_option maxHeartbeats 2000000 in
theorem yzgx (f:Nat->Nat)(n:Int)(hf:∀ b,b<256->f b<256)(ms:List (Nat->Bool))(hms:ms.length<=64)(A:Option Addr)(c:Nat)(w:World)(hT:Tab w)(hr:SetRow w w.heap.size A ms):
 Calls Tryz.prog 91 #[.agg (clsC f n),.slice A ms.length c] w fun e w'=>e=.returned (.agg (rowC (rowR f (allP ms))))/\Below w.heap.size w w':=by
 have z:=zeroW;have HF:=zd hf;have HT:=zd hT;have HR:=zd hr;have hb:=((BlkIs.new w 36 (clsC f n)).alloc (.cells (rowC fun _=>0) 142)).alloc (.cells (rowC fun _=>0) 142);have hr0:=(BlkIs.new (w.alloc (.cells (clsC f n) 36)) 142 (rowC fun _=>0)).alloc (.cells (rowC fun _=>0) 142);have hk0:=BlkIs.new ((w.alloc (.cells (clsC f n) 36)).alloc (.cells (rowC fun _=>0) 142)) 142 (rowC fun _=>0);rw [World.size_alloc]at hr0;rw [World.size_alloc,World.size_alloc]at hk0;have hB:=(((Below.refl w.heap.size w).alloc (Nat.le_refl _) (.cells (clsC f n) 36)).alloc (by simp) (.cells (rowC fun _=>0) 142)).alloc (by simp;omega) (.cells (rowC fun _=>0) 142);have HB:=zd hb;have HS:=zd (And.intro hr0 (And.intro hk0 hB));clear hf hT hr hb hr0 hk0 hB
 go_enter Tryz.func91,Tryz.ntmps91
 go_wp2_with(refine xzij rfl (.tmp 12) rfl rfl HB.out ?_)
 go_loopw [14] (fun s wr=>∃ k:Nat,k<=256/\s=.int .i64 k/\Hid (BlkIs wr (w.heap.size+1) 142 (rowC fun _=>0)/\BlkIs wr (w.heap.size+2) 142 (rowC (rowK f k))/\Below w.heap.size w wr)) (fun s _=>256 - (intOf s).toNat)
 case atStart=>
  refine⟨0,by omega,rfl,zd ⟨HS.out.1,?_,HS.out.2.2⟩⟩
  have e:rowC (rowK f 0)=rowC (fun _=>0):=xzdb fun i _=>by
   unfold rowK;rw [if_neg (by omega)]
  rw [e];exact HS.out.2.1
 case round=>
  obtain⟨k,hk,rfl,HH⟩:=hrel
  by_cases hlt:k<256
  ·have hix:=idxO f hlt wr
   have hfk:=HF.out k hlt
   have hw:IntKind.u64.wrap ((f k:Nat):Int)=(f k:Nat):=by rw [IntKind.wrap_u64];omega
   have hc:=(HH.out.2.1.cell (k*2)).trans (xzlg _ (by omega));have hfz:=HH.out.2.1.frozen (k*2)
   have hfin:BlkIs (wr.setCell ⟨w.heap.size+2,k*2,none⟩ (.int .u64 (f k:Nat))) (w.heap.size+1) 142 (rowC fun _=>0)/\BlkIs (wr.setCell ⟨w.heap.size+2,k*2,none⟩ (.int .u64 (f k:Nat))) (w.heap.size+2) 142 (rowC (rowK f (k+1)))/\Below w.heap.size w (wr.setCell ⟨w.heap.size+2,k*2,none⟩ (.int .u64 (f k:Nat))):=by
    refine⟨HH.out.1.far (by simp) _,?_,HH.out.2.2.setCell (by simp) _⟩;have h:=HH.out.2.1.put (k*2) (.int .u64 (f k:Nat))
    rwa [yzgu]at h
   have HFI:=zd hfin;clear hfin;go_wp2;exact⟨⟨k+1,by omega,by go_num,HFI⟩,by simp [intOf];omega⟩
  ·obtain rfl:k=256:=by omega
   have HH1:=HH.out;rw [yzgv f ms]at HH1;have H1:=zd HH1;clear HH1 HH HS;go_wp2
   go_loopw [26] (fun s wr=>∃ i:Nat,i<=ms.length/\s=.int .i64 i/\Hid (BlkIs wr (w.heap.size+1) 142 (rowC fun _=>0)/\BlkIs wr (w.heap.size+2) 142 (rowC (rowR f (partBr ms i [])))/\Below w.heap.size w wr)) (fun s _=>ms.length - (intOf s).toNat)
   case atStart=>exact⟨0,by omega,rfl,H1⟩
   case round=>
    clear H1;obtain⟨i,hi,rfl,HH⟩:=hrel
    by_cases hlt:i<ms.length
    ·obtain⟨m,hm⟩:∃ m,ms[i]? =some m:=⟨ms[i],List.getElem?_eq_getElem hlt⟩
     obtain⟨b,off,hA,hbl,hcell⟩:=HR.out (fun e=>by rw [e]at hlt;simp at hlt);have hrng:=xzgu HH.out.2.2 hbl (hcell i m hm);subst hA;have HRG:=zd hrng;have HBM:=zd (yzbs m);clear hrng hcell
     go_wp2_with(refine xzpg rfl (.tmp 29) rfl rfl HRG.out ?_)
     refine(HBM.out _ (HT.out.step (HH.out.2.2.alloc HH.out.2.2.size _))).mono ?_;rintro e w2 ⟨A',c',rfl,hbr,hb2⟩;have hs2:Below wr.heap.size wr w2:=((Below.refl _ _).alloc (Nat.le_refl _) _).trans (hb2.mono (by simp));have H2:=zd (And.intro (HH.out.1.step hs2) (And.intro (HH.out.2.1.step hs2) (And.intro (HH.out.2.2.trans (hs2.mono HH.out.2.2.size)) hbr)));have HL:=zd (fun x (hx:x∈mems m 256)=>yzeh hx);have HNX:=zd (xzyc f hm);have hlen:=xzoz m 256;clear hb2 hs2 hbr HBM HRG HH hm hbl;generalize mems m 256=l at*;go_wp2
     go_loopw [34] (fun s wr=>∃ p:Nat,p<=l.length/\s=.int .i64 p/\Hid (BlkIs wr (w.heap.size+1) 142 (rowC fun _=>0)/\BlkIs wr (w.heap.size+2) 142 (rowC (rowR f (partBr ms i (l.take p))))/\Below w.heap.size w wr/\ByteRow wr w2.heap.size A' l)) (fun s _=>l.length - (intOf s).toNat)
     case atStart=>exact⟨0,by omega,rfl,zd H2.out⟩
     case round=>
      clear H2;obtain⟨p,hp,rfl,HI⟩:=hrel
      by_cases hlp:p<l.length
      ·obtain⟨x,hx⟩:∃ x,l[p]? =some x:=⟨l[p],List.getElem?_eq_getElem hlp⟩
       have hx256:=HL.out x (List.mem_of_getElem? hx);obtain⟨b',off',hA',hbl',hcell'⟩:=HI.out.2.2.2 (fun e=>by rw [e]at hlp;simp at hlp);have g1:=hcell' p x hx;have g2:=(HI.out.2.1.cell (x*2+1)).trans (xzlg _ (by omega))
       have e2:rowR f (partBr ms i (l.take p)) (x*2+1)=wd (fun j=>partBr ms i (l.take p) j x) 0:=by
        unfold rowR;rw [if_neg (by omega),show(x*2+1) / 2=x by omega]
       rw [e2]at g2;have g3:=HI.out.2.1.frozen (x*2+1)
       have hor:bits .or .u64 (wd (fun j=>partBr ms i (l.take p) j x) 0:Nat) (IntKind.u64.wrap (2^i))=(wd (fun j=>partBr ms i (l.take p++[x]) j x) 0:Int):=by
        have:=xzss (x:=i) (i:=0) (fun j=>yzcm ms i (l.take p) x j) (Nat.div_eq_of_lt (by omega))
        rwa [Nat.mod_eq_of_lt (by omega)]at this
       have htk:l.take (p+1)=l.take p++[x]:=by rw [List.take_add_one,hx];rfl
       have HFI:=zd (show BlkIs (wr.setCell ⟨w.heap.size+2,x*2+1,none⟩ (.int .u64 (wd (fun j=>partBr ms i (l.take p++[x]) j x) 0:Nat))) (w.heap.size+1) 142 (rowC fun _=>0)/\
        BlkIs (wr.setCell ⟨w.heap.size+2,x*2+1,none⟩ (.int .u64 (wd (fun j=>partBr ms i (l.take p++[x]) j x) 0:Nat))) (w.heap.size+2) 142 (rowC (rowR f (partBr ms i (l.take (p+1)))))/\
        Below w.heap.size w (wr.setCell ⟨w.heap.size+2,x*2+1,none⟩ (.int .u64 (wd (fun j=>partBr ms i (l.take p++[x]) j x) 0:Nat)))/\
        ByteRow (wr.setCell ⟨w.heap.size+2,x*2+1,none⟩ (.int .u64 (wd (fun j=>partBr ms i (l.take p++[x]) j x) 0:Nat))) w2.heap.size A' l from by
        refine⟨HI.out.1.far (by simp) _,?_,HI.out.2.2.1.setCell (by simp) _,HI.out.2.2.2.farRow HI.out.2.1 _⟩;have h:=HI.out.2.1.put (x*2+1) (.int .u64 (wd (fun j=>partBr ms i (l.take p++[x]) j x) 0:Nat));rw [yzgw]at h;rw [htk]
        exact h)
       subst hA';generalize wd (fun j=>partBr ms i (l.take p) j x) 0=y0 at*;generalize wd (fun j=>partBr ms i (l.take p++[x]) j x) 0=y1 at*;clear hcell' HI htk e2 HL HNX hx;go_wp2
       go_region
       go_wp2;exact⟨⟨p+1,by omega,by go_num,zd ⟨HFI.out.1.drew,HFI.out.2.1.drew,HFI.out.2.2.1.drew,HFI.out.2.2.2⟩⟩,by simp [intOf];omega⟩
      ·obtain rfl:p=l.length:=by omega
       have hi2:=HI.out;rw [List.take_length,HNX.out]at hi2;have HI2:=zd (And.intro hi2.1 (And.intro hi2.2.1 hi2.2.2.1));clear hi2 HI HNX HL;go_wp2
       go_roundw
       case rel=>exact⟨_,_,_,_,_,_,_,_,_,_,_,_,_,_,_,_,_,_,_,_,_,_,_,_,_,_,⟨i+1,by omega,by go_num,HI2⟩,rfl⟩
       case measure=>simp [intOf];omega
    ·obtain rfl:i=ms.length:=by omega
     have hh:=HH.out;rw [yzcn]at hh;have H3:=zd hh;clear hh HH
     go_wp2_with(first
      |refine xzpa rfl (.tmp 5) rfl rfl H3.out.2.1 ?_
      |(refine xzam rfl 142 (.tmp 4) (.tmp 49) rfl rfl (new:=rowC (rowR f (allP ms))) rfl H3.out.1 (by rw [xzdr,xzdr]) (by rw [xzdr];exact infoW) (yzgi _) ?_;intro w1 hw1 hwr))
     exact bodyPost_ret (xzae rfl (by simp [Act.put]) (loadVarW hw1)) rfl ⟨rfl,hwr.2.1 _ _ (Nat.le_succ _) H3.out.2.2⟩
end
section
open Go.RowKit
def SeenIs (w:World)(M:Nat)(g:Nat->Nat×Nat)(t:Nat):Prop:=
 ∃ D:DataW Unit,w.ownsMap Tryz.prog 139 (plainElem Tryz.prog 5) M t D/\Maps.size D=cnt g t/\
  (∀ x y,x<18446744073709551616->y<18446744073709551616->Maps.has D (keyL x y)=(List.range t).any fun a=>decide (g a=(x,y)))/\
  (∀ a,a<t->D.atKey (keyL (g a).1 (g a).2) (.lit (.int .u8 0))=.lit (.int .u8 (num g a:Nat)))
theorem SeenIs.kept {w w':World}{M:Nat}{g:Nat->Nat×Nat}{t:Nat}{row:Option Nat}(h:SeenIs w M g t)(hg:w.grownBy w' row)(hne:some M≠row):SeenIs w' M g t:=by
 obtain⟨D,h1,h2⟩:=h;exact⟨D,h1.kept hg hne,h2⟩
theorem SeenIs.lt {w:World}{M:Nat}{g:Nat->Nat×Nat}{t:Nat}(h:SeenIs w M g t):M<w.heap.size:=by
 obtain⟨D,h1,_⟩:=h;exact h1.lt
theorem SeenIs.start (w:World)(g:Nat->Nat×Nat):SeenIs (w.alloc (.map #[] 0)) w.heap.size g 0:=
 ⟨.map [],World.ownsMap_made _ _ _ _,rfl,fun _ _ _ _=>rfl,fun a h=>absurd h (by omega)⟩
theorem zero5 (w:World):(zeroValue 5).run Tryz.prog w=.ok (.int .u8 0) w:=by kernel_rfl
theorem yzgy {w:World}{M t:Nat}{g:Nat->Nat×Nat}{D:DataW Unit}(hg:∀ b,b<=t->(g b).1<18446744073709551616/\(g b).2<18446744073709551616)(ho:old g t=true)
 (h1:w.ownsMap Tryz.prog 139 (plainElem Tryz.prog 5) M t D)(h2:Maps.size D=cnt g t)
 (h3:∀ x y,x<18446744073709551616->y<18446744073709551616->Maps.has D (keyL x y)=(List.range t).any fun a=>decide (g a=(x,y)))
 (h4:∀ a,a<t->D.atKey (keyL (g a).1 (g a).2) (.lit (.int .u8 0))=.lit (.int .u8 (num g a:Nat))):
 SeenIs w M g (t+1)/\Maps.has D (keyL (g t).1 (g t).2)=true/\D.atKey (keyL (g t).1 (g t).2) (.lit (.int .u8 0))=.lit (.int .u8 (num g t:Nat)):=by
 obtain⟨a,ha,e⟩:=old_iff.1 ho
 have hat:D.atKey (keyL (g t).1 (g t).2) (.lit (.int .u8 0))=.lit (.int .u8 (num g t:Nat)):=by rw [<-e,h4 a ha,xzii e]
 refine⟨⟨D,h1.mono (Nat.le_succ t),by rw [xzcd,ho];exact h2,fun x y hx hy=>?_,fun b hb=>?_⟩,?_,hat⟩
 ·rw [h3 x y hx hy,List.range_succ,List.any_append,Bool.eq_iff_iff]
  simp only [List.any_cons,List.any_nil,Bool.or_false,Bool.or_eq_true,List.any_eq_true,List.mem_range,decide_eq_true_eq];exact⟨fun h=>.inl h,fun h=>h.elim id fun h=>⟨a,ha,e.trans h⟩⟩
 ·rcases Nat.lt_or_ge b t with hlt|hge
  ·exact h4 b hlt
  ·obtain rfl:b=t:=by omega
   exact hat
 ·rw [h3 _ _ (hg t (Nat.le_refl _)).1 (hg t (Nat.le_refl _)).2]
  exact ho
theorem yzgz {w w':World}{M t:Nat}{g:Nat->Nat×Nat}{D:DataW Unit}(hg:∀ b,b<=t->(g b).1<18446744073709551616/\(g b).2<18446744073709551616)(ho:old g t=false)
 (h1:w.ownsMap Tryz.prog 139 (plainElem Tryz.prog 5) M t D)(h2:Maps.size D=cnt g t)
 (h3:∀ x y,x<18446744073709551616->y<18446744073709551616->Maps.has D (keyL x y)=(List.range t).any fun a=>decide (g a=(x,y)))
 (h4:∀ a,a<t->D.atKey (keyL (g a).1 (g a).2) (.lit (.int .u8 0))=.lit (.int .u8 (num g a:Nat)))
 (h1':w'.ownsMap Tryz.prog 139 (plainElem Tryz.prog 5) M (t+1) (D.put (keyL (g t).1 (g t).2) (.lit (.int .u8 (num g t:Nat))))):
 SeenIs w' M g (t+1):=by
 have hT:=h1.tidy keyLaw;have hM:=h1.isMap;have hgt:=hg t (Nat.le_refl _)
 have hno:Maps.has D (keyL (g t).1 (g t).2)=false:=by rw [h3 _ _ hgt.1 hgt.2];exact ho
 refine⟨_,h1',?_,fun x y hx hy=>?_,fun b hb=>?_⟩
 ·rw [Maps.size_put hT,hno,xzcd,ho,h2];rfl
 ·rw [List.range_succ,List.any_append]
  by_cases e:(x,y)=g t
  ·have e1:x=(g t).1:=congrArg Prod.fst e
   have e2:y=(g t).2:=congrArg Prod.snd e;subst e1;subst e2;rw [Maps.has_put_same hM (yzee _ _)]
   simp
  ·have hne:keyL x y≠keyL (g t).1 (g t).2:=fun h=>by
    obtain⟨e1,e2⟩:=yzed hx hy hgt.1 hgt.2 h;exact e (by rw [e1,e2])
   rw [Maps.has_put_other hne,h3 x y hx hy]
   have e': ¬ g t=(x,y):=fun h=>e h.symm
   simp [e']
 ·rcases Nat.lt_or_ge b t with hlt|hge
  ·have hne:keyL (g b).1 (g b).2≠keyL (g t).1 (g t).2:=fun h=>by
    obtain⟨e1,e2⟩:=yzed (hg b (by omega)).1 (hg b (by omega)).2 hgt.1 hgt.2 h;exact(old_not.1 ho) b hlt (Prod.ext e1 e2)
   rw [Maps.atKey_put_other hne,h4 b hlt]
  ·obtain rfl:b=t:=by omega
   rw [Maps.atKey_put_same hM (yzee _ _)]
set_option maxRecDepth 100000 in
set_option maxHeartbeats 1000000 in
theorem xzyd (g:Nat->Nat×Nat)(t:Nat)(ht:t<256)(hg:∀ b,b<=t->(g b).1<18446744073709551616/\(g b).2<18446744073709551616)(M B:Nat)(w:World)
 (hbox:BlkIs w B 137 #[.map (some M)])(hs:SeenIs w M g t):
 Calls Tryz.prog 90 #[keyV (g t).1 (g t).2,.pointer (some ⟨B,0,none⟩)] w fun e w'=>e=.returned (.int .u8 (num g t:Nat))/\SeenIs w' M g (t+1)/\w.grownBy w' (some M):=by
 obtain⟨D,h1,h2,h3,h4⟩:=hs;have hkey:=yzgj (hg t (Nat.le_refl _)).1 (hg t (Nat.le_refl _)).2;have hc:=xzxc g t
 have hMB:M≠B:=fun e=>by
  obtain⟨es,clock,hb,_⟩:=h1;unfold BlkIs at hbox;rw [e,hbox]at hb
  cases hb
 have hgrow0:=World.grownBy_alloc w (.cells #[.int .u64 (g t).1,.int .u64 (g t).2] 139) none;have hcell:=hbox.cell 0;have hcell1:=(hbox.alloc (.cells #[.int .u64 (g t).1,.int .u64 (g t).2] 139)).cell 0;simp only [zq]at hcell hcell1
 have hwrap:IntKind.u8.wrap ((cnt g t:Nat):Int)=(cnt g t:Nat):=by rw [IntKind.wrap_u8];omega
 cases ho:old g t
 ·have hno:Maps.has D (keyL (g t).1 (g t).2)=false:=by rw [h3 _ _ (hg t (Nat.le_refl _)).1 (hg t (Nat.le_refl _)).2];exact ho
  have hnum:=xzxd ho;have HN:=zd (fun w'=>yzgz (w':=w') hg ho h1 h2 h3 h4);rw [hnum]at HN ⊢;have H1:=zd h1;have HG:=zd hgrow0;clear h1 h3 h4 hbox hg hgrow0;generalize(g t).1=x at*;generalize(g t).2=y at*
  go_enter Tryz.func90,Tryz.ntmps90
  go_wp2_with(first
   |(at_lookup;refine wpList_lookup_own_ok_int _ rfl _ _ 137 rfl 139 5 .u8 keyLaw Tryz.underlying137 Tryz.underlying5 (zero5 _) M t _ rfl (H1.out.alloc _) _ _ rfl hkey ?_;rw [hno];intro c hat hwc)
   |(at_len;refine wpList_len_own _ rfl _ 137 rfl 139 5 Tryz.underlying137 _ M t _ rfl (H1.out.alloc _) ?_;rw [h2])
   |(at_mapUpdate;refine wpList_mapUpdate_own _ rfl _ _ _ 137 rfl 139 5 keyLaw Tryz.underlying137 _ M t _ rfl (H1.out.alloc _) (by unfold maxLen;omega) _ _ _ rfl rfl hkey _ [] (plainElem_int Tryz.underlying5 (WalkArith.wf_u8 (by omega))) ?_;intro w1 hown1 hgrow1))
  go_ret;exact⟨rfl,HN.out w1 hown1,(HG.out.but _).trans hgrow1⟩
 ·obtain⟨k1,k2,k3⟩:=yzgy hg ho h1 h2 h3 h4
  have H1:=zd h1;have HG:=zd hgrow0;have HK:=zd k1;clear h1 h3 h4 hbox hg hgrow0 k1;generalize hx:(g t).1=x at*;generalize hy:(g t).2=y at*
  go_enter Tryz.func90,Tryz.ntmps90
  go_wp2_with(first
   |(at_lookup;refine wpList_lookup_own_ok_int _ rfl _ _ 137 rfl 139 5 .u8 keyLaw Tryz.underlying137 Tryz.underlying5 (zero5 _) M t _ rfl (H1.out.alloc _) _ _ rfl hkey ?_;rw [k2];intro c hat hwc))
  go_ret
  have hc:c=(num g t:Nat):=by
   rw [k3]at hat
   simpa using hat.symm
  exact⟨by rw [hc];rfl,HK.out.kept HG.out (by simp),(HG.out.but _)⟩
end
end Go.Proofs.YtgbljnnmhmlifaaGreatDoor
