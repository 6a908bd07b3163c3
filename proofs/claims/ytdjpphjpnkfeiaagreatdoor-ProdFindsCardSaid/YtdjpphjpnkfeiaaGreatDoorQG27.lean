/-
 STATES FOUND ALONG A QUEUE, each with its first text, by plain functions: of bytes alike the least one is enough; what is found of one is found of the other, where dead states are left out. No condition.
-/
import Derived.Test.YtdjpphjpnkfeiaaGreatDoorQG04
import Derived.Test.YtdjpphjpnkfeiaaGreatDoorQG06
import Derived.Test.YtdjpphjpnkfeiaaGreatDoorQG14
namespace Go.Proofs.YtdjpphjpnkfeiaaGreatDoor
section
open Go.RowKit
section
variable {σ τ : Type} [DecidableEq σ] [DecidableEq τ]
def meetQ (no:σ->Bool)(F:List (σ×List Nat))(x:σ×List Nat):List (σ×List Nat):=if no x.1=true\/x.1∈F.map Prod.fst then F else F++[x]
def alongQ (no:σ->Bool)(δ:σ->Nat->σ)(x:σ×List Nat)(bs:List Nat)(F:List (σ×List Nat)):List (σ×List Nat):=bs.foldl (fun F b=>meetQ no F (δ x.1 b,x.2++[b])) F
def walkQ (no:σ->Bool)(δ:σ->Nat->σ)(bs:List Nat)(F:List (σ×List Nat)):Nat->List (σ×List Nat)
 |0=>F
 |k+1=>match (walkQ no δ bs F k)[k]? with
  |none=>walkQ no δ bs F k
  |some x=>alongQ no δ x bs (walkQ no δ bs F k)
variable {no : σ → Bool} {δ : σ → Nat → σ} {bs : List Nat} {F : List (σ × List Nat)}
theorem xzqd (x:σ×List Nat):F<+:meetQ no F x:=by
 unfold meetQ;split
 ·exact List.prefix_refl _
 ·exact List.prefix_append _ _
theorem yzav {x:σ×List Nat}(h:no x.1=false):x.1∈(meetQ no F x).map Prod.fst:=by
 unfold meetQ;split
 ·rename_i hx
  rcases hx with hx|hx
  ·rw [h]at hx;cases hx
  ·exact hx
 ·simp
theorem xzcf (x:σ×List Nat):∀ (bs:List Nat) (F:List (σ×List Nat)),F<+:alongQ no δ x bs F
 |[],_=>List.prefix_refl _
 |b::bs,_=>(xzqd (no:=no) (δ x.1 b,x.2++[b])).trans (xzcf x bs _)
theorem xzec (x:σ×List Nat)(bs:List Nat)(b:Nat)(F:List (σ×List Nat)):alongQ no δ x (bs++[b]) F=meetQ no (alongQ no δ x bs F) (δ x.1 b,x.2++[b]):=by
 unfold alongQ;rw [List.foldl_append];rfl
theorem xzbv {k:Nat}{x:σ×List Nat}(h:(walkQ no δ bs F k)[k]? =some x):walkQ no δ bs F (k+1)=alongQ no δ x bs (walkQ no δ bs F k):=by
 show(match (walkQ no δ bs F k)[k]? with|none=>walkQ no δ bs F k|some x=>alongQ no δ x bs (walkQ no δ bs F k))=_
 rw [h]
theorem xzbq {k:Nat}(h:(walkQ no δ bs F k).length<=k):walkQ no δ bs F (k+1)=walkQ no δ bs F k:=by
 show(match (walkQ no δ bs F k)[k]? with|none=>walkQ no δ bs F k|some x=>alongQ no δ x bs (walkQ no δ bs F k))=_
 rw [List.getElem?_eq_none h]
theorem xzwa (k:Nat):walkQ no δ bs F k<+:walkQ no δ bs F (k+1):=by
 by_cases h:k<(walkQ no δ bs F k).length
 ·rw [xzbv (List.getElem?_eq_getElem h)];exact xzcf _ _ _
 ·rw [xzbq (by omega)];exact List.prefix_refl _
theorem yzaw {k m:Nat}(h:k<=m):walkQ no δ bs F k<+:walkQ no δ bs F m:=by
 induction h with
 |refl=>exact List.prefix_refl _
 |step _ ih=>exact ih.trans (xzwa _)
theorem xzdw {k:Nat}(h:(walkQ no δ bs F k).length<=k):∀ m,k<=m->walkQ no δ bs F m=walkQ no δ bs F k:=by
 intro m hm
 induction hm with
 |refl=>rfl
 |step hm ih=>
  rename_i m
  rw [xzbq (by rw [ih];exact Nat.le_trans h hm),ih]
theorem xzwb (P:σ->Prop){x:σ×List Nat}(h:(F.map Prod.fst).Nodup/\∀ y∈F,no y.1=false/\P y.1)(hx:P x.1):((meetQ no F x).map Prod.fst).Nodup/\∀ y∈meetQ no F x,no y.1=false/\P y.1:=by
 unfold meetQ;split
 ·exact h
 ·rename_i hn
  have hn1:no x.1=false:=by cases e:no x.1 with|false=>rfl|true=>exact absurd (.inl e) hn
  refine⟨?_,fun y hy=>?_⟩
  ·rw [List.map_append,List.nodup_append]
   refine⟨h.1,by simp,fun a ha b hb e=>?_⟩;simp only [List.map_cons,List.map_nil,List.mem_singleton]at hb;subst hb;subst e;exact hn (.inr ha)
  ·rcases List.mem_append.1 hy with hy|hy
   ·exact h.2 y hy
   ·rw [List.mem_singleton]at hy;subst hy;exact⟨hn1,hx⟩
theorem xzqe (P:σ->Prop)(x:σ×List Nat)(hx:∀ b,P (δ x.1 b)):∀ (bs:List Nat) (F:List (σ×List Nat)),((F.map Prod.fst).Nodup/\∀ y∈F,no y.1=false/\P y.1)->((alongQ no δ x bs F).map Prod.fst).Nodup/\∀ y∈alongQ no δ x bs F,no y.1=false/\P y.1
 |[],_,h=>h
 |b::bs,_,h=>xzqe P x hx bs _ (xzwb P h (hx b))
theorem xzwc (P:σ->Prop)(hs:∀ s,P s->∀ b,P (δ s b))(h:(F.map Prod.fst).Nodup/\∀ y∈F,no y.1=false/\P y.1):∀ k,((walkQ no δ bs F k).map Prod.fst).Nodup/\∀ y∈walkQ no δ bs F k,no y.1=false/\P y.1
 |0=>h
 |k+1=>by
  have ih:=xzwc P hs h k
  by_cases hk:k<(walkQ no δ bs F k).length
  ·rw [xzbv (List.getElem?_eq_getElem hk)]
   exact xzqe P _ (hs _ (ih.2 _ (List.getElem_mem hk)).2) _ _ ih
  ·rw [xzbq (by omega)];exact ih
theorem xzfb {x:σ×List Nat}(h:no x.1=true\/x.1∈F.map Prod.fst):meetQ no F x=F:=by unfold meetQ;rw [if_pos h]
theorem xzgs {x:σ×List Nat}(h1:no x.1=false)(h:x.1∉F.map Prod.fst):meetQ no F x=F++[x]:=by
 unfold meetQ;rw [if_neg];rintro(h2|h2)
 ·rw [h1]at h2;cases h2
 ·exact h h2
theorem xzmn (x:σ×List Nat):∀ (bs:List Nat) (F:List (σ×List Nat)) (b:Nat),b∈bs->no (δ x.1 b)=false->δ x.1 b∈(alongQ no δ x bs F).map Prod.fst
 |c::bs,F,b,hb,hn=>by
  rcases List.mem_cons.1 hb with rfl|hb
  ·exact((xzcf x bs _).map _).subset (yzav (x:=(δ x.1 b,x.2++[b])) hn)
  ·exact xzmn x bs _ b hb hn
def leastQ (g:Nat->τ)(n:Nat):List Nat:=(List.range n).filter fun x=> !old g x
theorem xzfo (g:Nat->τ)(n:Nat):leastQ g (n+1)=leastQ g n++(if old g n then []else [n]):=by
 unfold leastQ;rw [List.range_succ,List.filter_append]
 cases h:old g n<;>simp [h]
theorem leastQ_mem {g:Nat->τ}{n b:Nat}:b∈leastQ g n↔b<n/\old g b=false:=by
 unfold leastQ;rw [List.mem_filter,List.mem_range];simp
theorem xzjo {g:Nat->τ}(hg:∀ s a b,g a=g b->δ s a=δ s b)(x:σ×List Nat)(F:List (σ×List Nat)):∀ n,alongQ no δ x (leastQ g n) F=alongQ no δ x (List.range n) F
 |0=>rfl
 |n+1=>by
  have ih:=xzjo hg x F n;rw [xzfo,List.range_succ,xzec]
  cases ho:old g n
  ·rw [if_neg (by decide),xzec,ih]
  ·rw [if_pos rfl,List.append_nil,ih]
   obtain⟨a,ha,e⟩:=old_iff.1 ho;have e2:=hg x.1 a n e;refine(xzfb ?_).symm
   cases hn:no (δ x.1 n)with
   |true=>exact .inl rfl
   |false=>
    right
    show δ x.1 n∈_
    rw [<-e2];exact xzmn x _ F a (List.mem_range.2 ha) (by rw [e2];exact hn)
theorem xzmo {g:Nat->τ}(hg:∀ s a b,g a=g b->δ s a=δ s b)(n:Nat)(F:List (σ×List Nat)):∀ k,walkQ no δ (leastQ g n) F k=walkQ no δ (List.range n) F k
 |0=>rfl
 |k+1=>by
  have ih:=xzmo hg n F k
  by_cases hk:k<(walkQ no δ (List.range n) F k).length
  ·rw [xzbv (List.getElem?_eq_getElem hk),xzbv (x:=(walkQ no δ (List.range n) F k)[k]) (by rw [ih];exact List.getElem?_eq_getElem hk),ih,xzjo hg]
  ·rw [xzbq (bs:=List.range n) (by omega),xzbq (by rw [ih];omega),ih]
structure SimQ (no:σ->Bool)(δ:σ->Nat->σ)(no':τ->Bool)(δ':τ->Nat->τ)(L:σ->Bool)(P:σ->Prop)(r:σ->τ):Prop where
 no0:∀ s,no s=true->L s=false
 dead:∀ s b,P s->L s=false->L (δ s b)=false
 on:∀ s b,P s->P (δ s b)
 same:∀ s b,P s->L s=true->L (δ s b)=true->δ' (r s) b=r (δ s b)
 out:∀ s b,P s->L s=true->L (δ s b)=false->no' (δ' (r s) b)=true
 live:∀ s,P s->L s=true->no' (r s)=false
 inj:∀ s t,P s->P t->L s=true->L t=true->r s=r t->s=t
variable {no' : τ → Bool} {δ' : τ → Nat → τ} {L : σ → Bool} {P : σ → Prop} {r : σ → τ}
def renQ (L:σ->Bool)(r:σ->τ)(F:List (σ×List Nat)):List (τ×List Nat):=(F.filter fun x=>L x.1).map fun x=>(r x.1,x.2)
theorem yzax (H:SimQ no δ no' δ' L P r){F:List (σ×List Nat)}(hF:∀ y∈F,P y.1){x:σ×List Nat}(hx:P x.1):(L x.1=true->renQ L r (meetQ no F x)=meetQ no' (renQ L r F) (r x.1,x.2))/\(L x.1=false->renQ L r (meetQ no F x)=renQ L r F):=by
 constructor
 ·intro hl
  have hn:no x.1=false:=by cases e:no x.1 with|false=>rfl|true=>rw [H.no0 _ e]at hl;cases hl
  by_cases hm:x.1∈F.map Prod.fst
  ·rw [xzfb (.inr hm),xzfb]
   right
   obtain⟨y,hy,e⟩:=List.mem_map.1 hm;refine List.mem_map.2 ⟨(r y.1,y.2),List.mem_map.2 ⟨y,List.mem_filter.2 ⟨hy,by rw [e];exact hl⟩,rfl⟩,by rw [e]⟩
  ·rw [xzgs hn hm,xzgs (H.live _ hx hl)]
   ·unfold renQ
    rw [List.filter_append,List.map_append]
    congr 1
    simp [hl]
   ·intro h2
    obtain⟨z,hz,e⟩:=List.mem_map.1 h2;obtain⟨y,hy,rfl⟩:=List.mem_map.1 hz;have hy2:=List.mem_filter.1 hy;exact hm (List.mem_map.2 ⟨y,hy2.1,H.inj _ _ (hF y hy2.1) hx hy2.2 hl e⟩)
 ·intro hl
  unfold meetQ
  split
  ·rfl
  ·unfold renQ
   rw [List.filter_append,List.map_append]
   simp [hl]
theorem xzmp (H:SimQ no δ no' δ' L P r){x:σ×List Nat}(hx:P x.1):∀ (bs:List Nat) (F:List (σ×List Nat)),(∀ y∈F,P y.1)->
 (L x.1=true->renQ L r (alongQ no δ x bs F)=alongQ no' δ' (r x.1,x.2) bs (renQ L r F))/\(L x.1=false->renQ L r (alongQ no δ x bs F)=renQ L r F)
 |[],_,_=>⟨fun _=>rfl,fun _=>rfl⟩
 |b::bs,F,hF=>by
  have hp:=H.on x.1 b hx
  have hF':∀ y∈meetQ no F (δ x.1 b,x.2++[b]),P y.1:=by
   unfold meetQ;split
   ·exact hF
   ·intro y hy
    rcases List.mem_append.1 hy with hy|hy
    ·exact hF y hy
    ·rw [List.mem_singleton]at hy;subst hy;exact hp
  have ih:=xzmp H hx bs _ hF';have hm:=yzax H hF (x:=(δ x.1 b,x.2++[b])) hp;refine⟨fun hl=>?_,fun hl=>?_⟩
  ·show renQ L r (alongQ no δ x bs (meetQ no F (δ x.1 b,x.2++[b])))=alongQ no' δ' (r x.1,x.2) bs (meetQ no' (renQ L r F) (δ' (r x.1) b,x.2++[b]))
   rw [ih.1 hl]
   congr 1
   cases hd:L (δ x.1 b)with
   |true=>rw [hm.1 hd,H.same _ b hx hl hd]
   |false=>rw [hm.2 hd,xzfb (.inl (H.out _ b hx hl hd))]
  ·show renQ L r (alongQ no δ x bs (meetQ no F (δ x.1 b,x.2++[b])))=renQ L r F
   rw [ih.2 hl,hm.2 (H.dead _ b hx hl)]
omit [DecidableEq σ] [DecidableEq τ] in
theorem yzey {F:List (σ×List Nat)}{k:Nat}(hk:k<F.length)(hl:L (F[k]).1=true):(renQ L r F)[(renQ L r (F.take k)).length]? =some (r (F[k]).1,(F[k]).2):=by
 have e:F=F.take k++F[k]::F.drop (k+1):=by rw [<-List.drop_eq_getElem_cons hk,List.take_append_drop]
 have e2:renQ L r F=renQ L r (F.take k)++(r (F[k]).1,(F[k]).2)::renQ L r (F.drop (k+1)):=by
  conv=>lhs;rw [e]
  unfold renQ;rw [List.filter_append,List.map_append,List.filter_cons_of_pos (by simpa using hl),List.map_cons]
 rw [e2,List.getElem?_append_right (Nat.le_refl _),Nat.sub_self];rfl
omit [DecidableEq σ] [DecidableEq τ] in
theorem yzay {F:List (σ×List Nat)}{k:Nat}(hk:k<F.length):renQ L r (F.take (k+1))=renQ L r (F.take k)++(if L (F[k]).1 then [(r (F[k]).1,(F[k]).2)]else []):=by
 rw [List.take_add_one,List.getElem?_eq_getElem hk];unfold renQ;rw [Option.toList_some,List.filter_append,List.map_append]
 congr 1
 cases h:L (F[k]).1<;>simp [h]
theorem xzwd {x:σ×List Nat}(hx:∀ b,P (δ x.1 b)):∀ (bs:List Nat) (F:List (σ×List Nat)),(∀ y∈F,P y.1)->∀ y∈alongQ no δ x bs F,P y.1
 |[],_,h=>h
 |b::bs,F,h=>xzwd hx bs (meetQ no F (δ x.1 b,x.2++[b])) (by
  unfold meetQ;split
  ·exact h
  ·intro y hy
   rcases List.mem_append.1 hy with hy|hy
   ·exact h y hy
   ·rw [List.mem_singleton]at hy;subst hy;exact hx b)
theorem xzwe (hs:∀ s,P s->∀ b,P (δ s b))(h:∀ y∈F,P y.1):∀ k,∀ y∈walkQ no δ bs F k,P y.1
 |0=>h
 |k+1=>by
  have ih:=xzwe hs h k
  by_cases hk:k<(walkQ no δ bs F k).length
  ·rw [xzbv (List.getElem?_eq_getElem hk)]
   exact xzwd (hs _ (ih _ (List.getElem_mem hk))) _ _ ih
  ·rw [xzbq (by omega)];exact ih
omit [DecidableEq σ] in
theorem yzaz {a b:List (σ×List Nat)}(h:a<+:b){k:Nat}(hk:k<=a.length):b.take k=a.take k:=by
 obtain⟨c,rfl⟩:=h;rw [List.take_append_of_le_length hk]
theorem xzwf (H:SimQ no δ no' δ' L P r)(hF:∀ y∈F,P y.1):∀ k,k<=(walkQ no δ bs F k).length->renQ L r (walkQ no δ bs F k)=walkQ no' δ' bs (renQ L r F) (renQ L r ((walkQ no δ bs F k).take k)).length
 |0,_=>rfl
 |k+1,hk1=>by
  by_cases hk:k<(walkQ no δ bs F k).length
  ·have ih:=xzwf H hF k (Nat.le_of_lt hk)
   have hP:=xzwe (no:=no) (bs:=bs) (fun s h b=>H.on s b h) hF k;have ha:=xzmp H (hP _ (List.getElem_mem hk)) bs _ hP;rw [xzbv (List.getElem?_eq_getElem hk)]at hk1 ⊢;rw [yzaz (xzcf _ _ _) (by omega),yzay hk]
   cases hl:L ((walkQ no δ bs F k)[k]).1 with
   |true=>
    rw [ha.1 hl,if_pos rfl,List.length_append];simp only [List.length_cons,List.length_nil,Nat.zero_add];have hg:=yzey (r:=r) hk hl;rw [ih]at hg;rw [xzbv hg,ih]
   |false=>
    rw [ha.2 hl,if_neg (by decide),List.append_nil];exact ih
  ·rw [xzbq (by omega)]at hk1
   omega
theorem xzrv (H:SimQ no δ no' δ' L P r)(hF:∀ y∈F,P y.1){m:Nat}(hm:(walkQ no δ bs F m).length=m){n:Nat}(hn:m<=n):
 renQ L r (walkQ no δ bs F n)=walkQ no' δ' bs (renQ L r F) n:=by
 have h1:=xzwf (bs:=bs) H hF m (by omega);rw [List.take_of_length_le (by omega)]at h1;rw [xzdw (by omega) n hn,h1]
 have hl:(renQ L r (walkQ no δ bs F m)).length<=m:=by
  unfold renQ;rw [List.length_map];exact Nat.le_trans (List.length_filter_le _ _) (by omega)
 refine(xzdw ?_ n (by omega)).symm;rw [<-h1];exact Nat.le_refl _
end
end
section
open Go.RowKit
theorem IntsV.keep {W W':World}{l:List Int}{v:Value}(h:IntsV W l v)(hk:∀ b,v.ownBlock=some b->l≠[]->W'.heap[b]? =W.heap[b]?):IntsV W' l v:=by
 obtain⟨A,c,rfl,hc,hs⟩:=h;refine⟨A,c,rfl,hc,fun hne=>?_⟩;obtain⟨b,o,rfl,hlt,hg⟩:=hs hne;have e:=hk b rfl hne
 have hg':∀ (i:Nat) (h:i<l.length),W'.cell? ⟨b,o+i,none⟩=some (.int .i64 l[i]):=fun i hi=>(xzbi e).trans (hg i hi)
 exact⟨b,o,rfl,World.block_lt_of_cell? W' ⟨b,o+0,none⟩ (hg' 0 (List.length_pos_iff.2 hne)),hg'⟩
def Rows0 (ρ:Nat->Nat)(W:World)(L:List (List Int))(hs:List Value):Prop:=
 hs.length=L.length/\∀ (i:Nat) (h:i<L.length),∃ v,hs[i]? =some v/\v.oneCell'=true/\IntsV W L[i] v/\∀ b,v.ownBlock=some b->L[i]≠[]->ρ b=0/\b<W.heap.size
theorem Rows0.keep {ρ:Nat->Nat}{W W':World}{L:List (List Int)}{hs:List Value}(h:Rows0 ρ W L hs)(hz:W.heap.size<=W'.heap.size)(hk:∀ b,b<W.heap.size->ρ b=0->W'.heap[b]? =W.heap[b]?):Rows0 ρ W' L hs:=
 ⟨h.1,fun i hi=>by
  obtain⟨v,h1,h2,h3,h4⟩:=h.2 i hi
  exact⟨v,h1,h2,h3.keep fun b hb hne=>hk b (h4 b hb hne).2 (h4 b hb hne).1,fun b hb hne=>⟨(h4 b hb hne).1,by have:=(h4 b hb hne).2;omega⟩⟩⟩
theorem Rows0.role {ρ ρ':Nat->Nat}{W:World}{L:List (List Int)}{hs:List Value}(h:Rows0 ρ W L hs)(hr:∀ b,b<W.heap.size->ρ b=0->ρ' b=0):Rows0 ρ' W L hs:=
 ⟨h.1,fun i hi=>by
  obtain⟨v,h1,h2,h3,h4⟩:=h.2 i hi
  exact⟨v,h1,h2,h3,fun b hb hne=>⟨hr b (h4 b hb hne).2 (h4 b hb hne).1,(h4 b hb hne).2⟩⟩⟩
theorem Rows0.push {ρ:Nat->Nat}{W:World}{L:List (List Int)}{hs:List Value}(h:Rows0 ρ W L hs){x:List Int}{v:Value}(h1:v.oneCell'=true)(h2:IntsV W x v)(h3:∀ b,v.ownBlock=some b->x≠[]->ρ b=0/\b<W.heap.size):Rows0 ρ W (L++[x]) (hs++[v]):=by
 refine⟨by simp [h.1],fun i hi=>?_⟩
 by_cases e:i<L.length
 ·rw [List.getElem_append_left e,List.getElem?_append_left (by rw [h.1];exact e)]
  exact h.2 i e
 ·have:i=L.length:=by simp at hi;omega
  subst this;rw [List.getElem_concat_length rfl];exact⟨v,by rw [<-h.1,List.getElem?_concat_length],h1,h2,h3⟩
theorem yzez {W:World}{B b:Nat}{t:TypeId}{x:Value}(h:BlkIs W b t #[x])(hB:B<=b):W.ownsRow B t 1 (.slice (some ⟨b,0,none⟩) 1 1) 1 [x]:=
 ⟨rfl,.inr ⟨b,1,#[x],rfl,hB,h,Nat.le_refl _,by unfold maxLen;decide,rfl,rfl⟩⟩
theorem xzwg {W:World}{B:Nat}{ρ:Nat->Nat}{v:Value}{L:List (List Int)}{hs:List Value}(h:W.ownsRow B 26 1 v L.length hs)(hr:Rows0 ρ W L hs):RowsI W L v:=by
 rcases h.2 with⟨rfl,h0⟩|⟨g,cap,cur,rfl,h1,h2,h3,h4,_⟩
 ·obtain rfl:=List.eq_nil_of_length_eq_zero h0
  exact⟨none,0,rfl,⟨by simp,by simp⟩,fun hne=>absurd rfl hne⟩
 ·refine⟨_,cap,rfl,⟨h3,by unfold maxLen at h4;omega⟩,fun _=>⟨g,0,rfl,(Array.getElem?_eq_some_iff.1 h2).1,fun i hi=>?_⟩⟩
  obtain⟨v,e1,_,e3,_⟩:=hr.2 i hi;refine⟨v,?_,e3⟩;have:=World.ownsRow.cells (g:=g) h rfl i v e1;rw [Addr.add_lit]at this;exact this
theorem xzfp {B:Nat}{W:World}{v:Value}{l:List Int}(hown:RowI B W v l){b c:Nat}{x:Int}(hnew:W.cell? ⟨b,0,none⟩=some (.int .i64 x))(hl:l.length+1<=1073741824)(hB:B<=W.heap.size):
 ∃ v' W',(Builtin.append_ #[26,26] 26 #[v,.slice (some ⟨b,0,none⟩) 1 c]).run Tryz.prog W=.ok v' W'/\RowI B W' v' (l++[x])/\W.grownBy W' v.ownBlock/\RowI B W' v l/\(v'.ownBlock=v.ownBlock\/v'.ownBlock=some W.heap.size):=by
 obtain⟨i0,hi0,hz0,hz1,hz2⟩:=info_parts xzdi
 have hnw:∀ j u,[Value.int .i64 x][j]? =some u->W.cell? ((⟨b,0,none⟩:Addr).add j)=some u:=fun j u hu=>by
  cases j with
  |zero=>
   simp only [List.getElem?_cons_zero,zh]at hu;subst hu;rw [Addr.add_lit];exact hnew
  |succ j=>simp at hu
 have h1:∀ u∈[Value.int .i64 x],u.oneCell'=true:=fun u hu=>by rw [List.mem_singleton.1 hu];rfl
 obtain⟨v',W',hr,h2,h3,_,h4⟩:=run_append_own_at (P:=Tryz.prog) (w:=W) B 26 26 3 i0 _ 1 8 Tryz.underlying26 hi0 hz0 hz1 hz2 rfl (by decide) v l.length _ hown
  ⟨b,0,none⟩ 1 c [.int .i64 x] rfl hnw h1 (by unfold maxLen;omega) (by omega) hB
 refine⟨v',W',hr,?_,h3,xzcd (P:=Tryz.prog) Tryz.underlying26 hi0 hz0 hz1 hz2 hown rfl hnw h1 (by unfold maxLen;omega) (by omega) hr,h4⟩;unfold RowI;rw [List.map_append,List.length_append];exact h2
end
end Go.Proofs.YtdjpphjpnkfeiaaGreatDoor
