import Derived.Test.YteampbddflhngabGreatR34

namespace Go.Proofs.YteampbddflhngabGreat
def zck(l:zal)(d:Nat):List Nat:=(List.range d).filter (zdl l)
def zb9(l:zal)(vals:List Nat)(d:Nat):zar:=(zck l d).map fun p=>vals.getD p 0
theorem ze5(l:zal)(d:Nat):zck l (d+1)=if zdl l d then zck l d++[d] else zck l d:=by
 unfold zck
 rw[List.range_succ,List.filter_append]
 by_cases h:zdl l d <;> simp[h]
theorem zi4(l:zal)(d p:Nat):p∈zck l d↔p < d/\zdl l p=true:=by simp[zck]
theorem zuw(l:zal){a b:Nat}(h:a<=b):zck l a <+: zck l b:=by
 induction h with
 |refl=>exact List.prefix_rfl
 |step h ih =>
  rw[ze5]
  split
  ·exact ih.trans (List.prefix_append _ _)
  ·exact ih
theorem zp6(l:zal)(p:Nat):zbv l p=if zdl l p then some (zck l p).length else none:=by
 unfold zbv zck
 rw[List.countP_eq_length_filter]
theorem zes(l:zal):zbf l=(zck l 5).length:=by
 unfold zbf zck
 rw[List.countP_eq_length_filter]
theorem zht(l:zal)(vals:List Nat)(d:Nat):(zb9 l vals d).length=(zck l d).length:=by simp[zb9]
theorem zjj(l:zal){x y:List Nat}{d:Nat}(h:∀ p,p < d->zdl l p=true->x.getD p 0=y.getD p 0):zb9 l x d=zb9 l y d:=by
 unfold zb9
 refine List.map_congr_left fun p hp=>?_
 have:=(zi4 l d p).1 hp
 exact h p this.1 this.2
theorem zkh(l:zal)(vals:List Nat){a b:Nat}(h:a<=b):zb9 l vals a=(zb9 l vals b).take (zck l a).length:=by
 obtain⟨t,ht⟩:=zuw l h
 unfold zb9
 rw[← ht]
 simp
theorem zs5(l:zal)(vals:List Nat)(d v:Nat)(hd:d < vals.length):zb9 l (vals.set d v) (d+1)=if zdl l d then zb9 l vals d++[v] else zb9 l vals d:=by
 have h0:(zck l d).map (fun p=>(vals.set d v).getD p 0)=(zck l d).map fun p=>vals.getD p 0:=by
  refine List.map_congr_left fun p hp=>?_
  have:=(zi4 l d p).1 hp
  rw[zao,if_neg (by omega)]
 unfold zb9
 rw[ze5]
 split
 ·rw[List.map_append,h0]
  simp[hd]
 ·exact h0
theorem zsv:∀ {l1 l2:List Nat},l1.Nodup->(∀ x∈l1,x∈l2)->l1.length<=l2.length
 |[],l2,_,_=>by simp
 |a::l1,l2,hn,hs=>by
  have ha:=hs a (by simp)
  have h1:=zsv (l1:=l1) (l2:=l2.erase a) (List.nodup_cons.1 hn).2 (fun x hx=>by
   have hne:x≠a:=by rintro rfl;exact(List.nodup_cons.1 hn).1 hx
   exact(List.mem_erase_of_ne hne).2 (hs x (by simp[hx])))
  rw[List.length_erase_of_mem ha] at h1
  have:=List.length_pos_of_mem ha
  simp;omega
theorem zfr(l:zal)(p:Nat):zdl l p=true↔∃ t∈l.terms,t.var=true/\t.num=p:=by
 unfold zdl
 rw[List.any_eq_true]
 constructor
 ·rintro⟨t,h1,h2⟩
  simp only[Bool.and_eq_true,beq_iff_eq] at h2
  exact⟨t,h1,h2.1,h2.2⟩
 ·rintro⟨t,h1,h2,h3⟩
  exact⟨t,h1,by simp[h2,h3]⟩
theorem zl4(l:zal)(d:Nat):(zck l d).length<=l.terms.length:=by
 have:=zsv (l1:=zck l d) (l2:=l.terms.map (·.num)) (List.nodup_range.filter _) (fun p hp=>by
  obtain⟨t,h1,_,h3⟩:=(zfr l p).1 ((zi4 l d p).1 hp).2
  exact List.mem_map.2 ⟨t,h1,h3⟩)
 simpa using this
theorem zmt(known:Int):∀(ts:List zbs) (k:Int),k<=ts.foldl (fun k t=>if t.var && decide ((t.num:Int) < known) && decide ((t.num:Int) > k) then(t.num:Int) else k) k/\(∀ t∈ts,t.var=true->(t.num:Int) < known->(t.num:Int)<=ts.foldl (fun k t=>if t.var && decide ((t.num:Int) < known) && decide ((t.num:Int) > k) then(t.num:Int) else k) k)/\(k < known->ts.foldl (fun k t=>if t.var && decide ((t.num:Int) < known) && decide ((t.num:Int) > k) then(t.num:Int) else k) k < known)
 |[],k=>⟨Int.le_refl _,fun t h=>(by cases h),fun h=>h⟩
 |t::ts,k=>by
  simp only[List.foldl_cons]
  by_cases hc:(t.var && decide ((t.num:Int) < known) && decide ((t.num:Int) > k))=true
  ·rw[if_pos hc]
   simp only[Bool.and_eq_true,decide_eq_true_eq] at hc
   obtain⟨i1,i2,i3⟩:=zmt known ts (t.num:Int)
   refine⟨by omega,fun u hu hv hk=>?_,fun _=>i3 (by omega)⟩
   rcases List.mem_cons.1 hu with rfl|hu
   ·exact i1
   ·exact i2 u hu hv hk
  ·rw[if_neg hc]
   obtain⟨i1,i2,i3⟩:=zmt known ts k
   refine⟨i1,fun u hu hv hk=>?_,i3⟩
   rcases List.mem_cons.1 hu with rfl|hu
   ·have:(u.num:Int)<=k:=by
     simp only[hv,hk,Bool.true_and,decide_true,decide_eq_true_eq] at hc
     omega
    omega
   ·exact i2 u hu hv hk
theorem zt7(l:zal){known:Int}{p:Nat}(hp:zdl l p=true)(hk:(p:Int) < known):(p:Int)<=zjs l known:=by
 obtain⟨t,h1,h2,h3⟩:=(zfr l p).1 hp
 have:=(zmt known l.terms (-1)).2.1 t h1 h2 (by omega)
 unfold zjs
 omega
theorem z0o(l:zal){known:Int}(hk:0<=known):zjs l known < known:=(zmt known l.terms (-1)).2.2 (by omega)
theorem z7s(l:zal)(known:Int):-1<=zjs l known:=(zmt known l.terms (-1)).1
theorem zmq:∀(ts:List zbs) (k:Nat),k<=ts.foldl (fun k t=>if t.var && decide (t.num ≥ k) then t.num+1 else k) k/\(∀ t∈ts,t.var=true->t.num < ts.foldl (fun k t=>if t.var && decide (t.num ≥ k) then t.num+1 else k) k)/\∀ b,k<=b->(∀ t∈ts,t.var=true->t.num < b)->ts.foldl (fun k t=>if t.var && decide (t.num ≥ k) then t.num+1 else k) k<=b
 |[],k=>⟨Nat.le_refl _,fun t h=>(by cases h),fun b h _=>h⟩
 |t::ts,k=>by
  simp only[List.foldl_cons]
  by_cases hc:(t.var && decide (t.num ≥ k))=true
  ·rw[if_pos hc]
   simp only[Bool.and_eq_true,decide_eq_true_eq] at hc
   obtain⟨i1,i2,i3⟩:=zmq ts (t.num+1)
   refine⟨by omega,fun u hu hv=>?_,fun b hb hq=>i3 b (by have:=hq t (by simp) hc.1;omega) fun u hu=>hq u (by simp[hu])⟩
   rcases List.mem_cons.1 hu with rfl|hu
   ·omega
   ·exact i2 u hu hv
  ·rw[if_neg hc]
   obtain⟨i1,i2,i3⟩:=zmq ts k
   refine⟨i1,fun u hu hv=>?_,fun b hb hq=>i3 b hb fun u hu=>hq u (by simp[hu])⟩
   rcases List.mem_cons.1 hu with rfl|hu
   ·have:u.num < k:=by simp only[hv,Bool.true_and,decide_eq_true_eq] at hc;omega
    omega
   ·exact i2 u hu hv
theorem zmr(l:zal){p:Nat}(hp:zdl l p=true):p < zdw l:=by
 obtain⟨t,h1,h2,h3⟩:=(zfr l p).1 hp
 have:=(zmq l.terms 0).2.1 t h1 h2
 unfold zdw
 omega
theorem zwd(l:zal){k:Nat}(h:∀ p,zdl l p=true->p < k):zdw l<=k :=
 (zmq l.terms 0).2.2 k (by omega) fun t ht hv=>h t.num ((zfr l t.num).2 ⟨t,ht,hv,rfl⟩)
theorem yb8(l:zal){known:Int}(hk:0<=known):zi3 l known < known:=by
 unfold zi3;split
 ·omega
 ·exact z0o l hk
theorem zt2(known:Int):∀(ls:List zal) (b:Int),b<=ls.foldl (zbg known) b/\(∀ l∈ls,zi3 l known<=ls.foldl (zbg known) b)/\(0<=known->b < known->ls.foldl (zbg known) b < known)
 |[],b=>⟨Int.le_refl _,fun l h=>(by cases h),fun _ h=>h⟩
 |l::ls,b=>by
  simp only[List.foldl_cons]
  obtain⟨i1,i2,i3⟩:=zt2 known ls (zbg known b l)
  have hs:b<=zbg known b l/\zi3 l known<=zbg known b l:=by unfold zbg;split <;> omega
  refine⟨by omega,fun u hu=>?_,fun h0 hb=>i3 h0 ?_⟩
  ·rcases List.mem_cons.1 hu with rfl|hu
   ·omega
   ·exact i2 u hu
  ·have:=yb8 l h0
   unfold zbg;split <;> omega
theorem znm(r:zai){known:Int}(hk:0<=known):zeo r known < known/\-1<=zeo r known/\zjs r.head known<=zeo r known/\(∀ l∈r.plain,zi3 l known<=zeo r known)/\∀ l∈r.nots,zi3 l known<=zeo r known:=by
 unfold zeo
 obtain⟨a1,a2,a3⟩:=zt2 known r.plain (zjs r.head known)
 obtain⟨b1,b2,b3⟩:=zt2 known r.nots (r.plain.foldl (zbg known) (zjs r.head known))
 have:=z7s r.head known
 exact⟨b3 hk (a3 hk (z0o r.head hk)),by omega,by omega,fun l hl=>by have:=a2 l hl;omega,b2⟩
theorem z1p{l:zal}{known:Nat}{b:Int}(h:zi3 l known<=b):(∀ p,zdl l p=true->p < known)∨∀ p,zdl l p=true->p < known->(p:Int)<=b:=by
 unfold zi3 at h
 by_cases hc:(zdw l:Int)<=known
 ·exact Or.inl fun p hp=>by have:=zmr l hp;omega
 ·rw[if_neg hc] at h
  exact Or.inr fun p hp hk=>by have:=zt7 l (known:=(known:Int)) hp (by omega);omega
structure zgi (r:zai):Prop where
 vars:r.vars<=5
 terms:∀ l∈r.plain,l.terms.length<=3
 plain:∀ l∈r.plain,∀ p,zdl l p=true->p < r.vars
 nots:∀ l∈r.nots,∀ p,zdl l p=true->p < r.vars
 head:∀ p,zdl r.head p=true->p < r.vars
 safe:∀ p,p < r.vars->∃ l∈r.plain,zdl l p=true
structure zd8 (r:zai) (Ts:List zad) (W:Nat):Prop where
 len:Ts.length=r.plain.length
 ok:∀(i:Nat) (l:zal) (T:zad),r.plain[i]?=some l->Ts[i]?=some T->zep T/\T.depth=zb1 (zbf l)/\T.width<=W
structure zjr (r:zai) (Ts Ns:List zad) (J:zaw):Prop where
 head:J.head=r.head
 vars:J.vars=r.vars
 holds:J.holds=(List.range 5).map (zb5 r)
 backs:J.backs=(List.range 5).map fun p=>zeo r (p:Nat)
 last:J.last=zeo r r.vars
 bars:J.bars=(r.nots.zip Ns).map fun x=>⟨x.1,zdw x.1,x.2⟩
 sides:J.sides.map (·.rows)=Ts
 vlen:J.values.length=5
 flen:J.from.length=5
theorem zgd(l:zal){x y:List Nat}(h:∀ p,zdl l p=true->x.getD p 0=y.getD p 0):zcv l x=zcv l y:=by
 have hc:∀ i,rowCell l x i=rowCell l y i:=by
  intro i
  unfold rowCell
  split
  ·rename_i hi
   unfold atT
   rw[show l.terms.getD i ⟨false,0,0⟩=l.terms[i] by simp[List.getD,hi]]
   split
   ·rename_i hv
    simp only[Bool.and_eq_true,decide_eq_true_eq] at hv
    exact h _ ((zfr l _).2 ⟨_,List.getElem_mem hi,hv.1,rfl⟩)
   ·rfl
  ·rfl
 unfold zcv
 rw[hc,hc,hc]
def yd5(T:zad)(l:zal)(y:List Nat):Prop:=(zbf l=0->T.count≠0)/\(zbf l≠0->(zlf T (zb9 l y 5)).isSome=true)
def zu0(r:zai)(Ts Ns:List zad)(y:List Nat):Prop:=(∀(i:Nat) (l:zal) (T:zad),r.plain[i]?=some l->Ts[i]?=some T->yd5 T l y)/\∀ x∈r.nots.zip Ns,zd5 x.2 (zcv x.1 y)=none
theorem z4t{r:zai}{l:zal}(hl:∀ p,zdl l p=true->p < r.vars){d:Nat}(hd:r.vars<=d):zck l d=zck l r.vars:=by
 induction hd with
 |refl=>rfl
 |@step m h ih =>
  rw[ze5,if_neg (fun q=>by have:=hl _ q;have:r.vars<=m:=h;omega),ih]
theorem z4b{r:zai}(hv:r.vars<=5){l:zal}(hl:∀ p,zdl l p=true->p < r.vars)(y:List Nat):zb9 l y 5=zb9 l y r.vars:=by
 unfold zb9
 rw[z4t hl hv]
def yco(r:zai)(J:zaw)(d:Nat):Prop:=∀(i:Nat) (l:zal) (s:ze0),r.plain[i]?=some l->J.sides[i]?=some s->s.nodes.length=3/\(∀ k,k<=(zck l d).length->k < 3->goT s.rows 0 ((zb9 l J.values d).take k)=some (s.nodes.getD k 0))/\(goT s.rows 0 (zb9 l J.values d)).isSome=true
def yd8(r:zai)(Ns:List zad)(vals:List Nat)(d:Nat):Prop:=∀ x∈r.nots.zip Ns,zdw x.1<=d->zd5 x.2 (zcv x.1 vals)=none
theorem zv5{r:zai}{d i lv:Nat}(h:(i,lv)∈zb5 r d):∃ l,r.plain[i]?=some l/\zdl l d=true/\lv=(zck l d).length:=by
 unfold zb5 at h
 simp only[List.mem_filterMap,Option.map_eq_some_iff,Prod.mk.injEq] at h
 obtain⟨⟨l,j⟩,h1,lv',h2,h3,h4⟩:=h
 rw[zp6] at h2
 split at h2
 ·rename_i hh
  simp only[Option.some.injEq] at h2
  have:=List.mem_zipIdx_iff_getElem?.1 h1
  simp only at this h3 hh h2
  subst h3
  exact⟨l,this,hh,by omega⟩
 ·cases h2
theorem holds_of{r:zai}{d i:Nat}{l:zal}(h:r.plain[i]?=some l)(hh:zdl l d=true):(i,(zck l d).length)∈zb5 r d:=by
 unfold zb5
 simp only[List.mem_filterMap,Option.map_eq_some_iff,Prod.mk.injEq]
 refine⟨(l,i),List.mem_zipIdx_iff_getElem?.2 h,(zck l d).length,?_,rfl,rfl⟩
 rw[zp6,if_pos hh]
theorem zp2(r:zai)(d:Nat):((zb5 r d).map (·.1)).Nodup:=by
 unfold zb5
 have key:∀(ls:List zal) (n:Nat),(((ls.zipIdx n).filterMap fun x=>(zbv x.1 d).map fun lv=>(x.2,lv)).map (·.1)).Nodup/\∀ i∈((ls.zipIdx n).filterMap fun x=>(zbv x.1 d).map fun lv=>(x.2,lv)).map (·.1),n<=i:=by
  intro ls
  induction ls with
  |nil=>intro n;simp
  |cons l ls ih =>
   intro n
   obtain⟨i1,i2⟩:=ih (n+1)
   rw[List.zipIdx_cons,List.filterMap_cons]
   cases hl:(zbv l d).map fun lv=>(n,lv) with
   |none=>exact⟨i1,fun i hi=>by have:=i2 i hi;omega⟩
   |some x =>
    have hx:x.1=n:=by
     simp only[Option.map_eq_some_iff] at hl
     obtain⟨a,_,rfl⟩:=hl
     rfl
    simp only[List.map_cons,List.nodup_cons,List.mem_cons]
    refine⟨⟨fun hm=>by have:=i2 _ hm;omega,i1⟩,?_⟩
    rintro i (rfl|hi)
    ·omega
    ·have:=i2 i hi;omega
 exact(key r.plain 0).1
def setDown(v lv:Nat)(s:ze0):ze0:=if lv+1 ≥ 3 then s else{ s with nodes:=s.nodes.set (lv+1) ((zaz s.rows (s.nodes.getD lv 0) v).getD 0) }
theorem z2q{J:zaw}{v:Nat}{h:Nat × Nat}(hs:zcs J h=true):ze2 v J h={ J with sides:=J.sides.set h.1 (setDown v h.2 (J.sides.getD h.1 ze0.zero)) }:=by
 unfold ze2 setDown
 by_cases h3:h.2+1 ≥ 3
 ·rw[if_pos (Or.inr h3),if_pos h3]
  have hl:h.1 < J.sides.length:=by simp only[zcs,Bool.and_eq_true,decide_eq_true_eq] at hs;exact hs.1
  have:J.sides.set h.1 (J.sides.getD h.1 ze0.zero)=J.sides:=by
   rw[show J.sides.getD h.1 ze0.zero=J.sides[h.1] by simp[List.getD,hl]]
   exact List.set_getElem_self _
  rw[this]
 ·rw[if_neg (by rintro(q|q);rw[hs] at q;cases q;exact h3 q),if_neg h3]
theorem zsc(v:Nat):∀(hs:List (Nat × Nat)) (J:zaw),(hs.map (·.1)).Nodup->(∀ h∈hs,zcs J h=true)->∃ ss,hs.foldl (ze2 v) J={ J with sides:=ss }/\ss.length=J.sides.length/\∀ i s,J.sides[i]?=some s->ss[i]?=some (match hs.lookup i with|none=>s|some lv=>setDown v lv s)
 |[],J,_,_=>⟨J.sides,rfl,rfl,fun i s h=>by simpa using h⟩
 |(j,lv)::hs,J,hn,hst=>by
  simp only[List.foldl_cons]
  have h0:=hst (j,lv) (by simp)
  rw[z2q h0]
  simp only
  have hjl:j < J.sides.length:=by simp only[zcs,Bool.and_eq_true,decide_eq_true_eq] at h0;exact h0.1
  simp only[List.map_cons,List.nodup_cons] at hn
  obtain⟨ss,e1,e2,e3⟩:=zsc v hs { J with sides:=J.sides.set j (setDown v lv (J.sides.getD j ze0.zero)) } hn.2 (fun h hh=>by
   have:=hst h (by simp[hh])
   unfold zcs at this ⊢
   simpa using this)
  refine⟨ss,e1,by simpa using e2,fun i s hi=>?_⟩
  by_cases hij:i=j
  ·subst hij
   have hg:J.sides.getD i ze0.zero=s:=by simp[List.getD,hi]
   have:=e3 i (setDown v lv s) (by rw[hg];simp[hjl])
   rw[this]
   have hnone:hs.lookup i=none:=by
    rw[List.lookup_eq_none_iff]
    intro x hx
    have:x.1≠i:=by
     rintro rfl
     exact hn.1 (List.mem_map.2 ⟨x,hx,rfl⟩)
    simpa using fun q=>this q.symm
   rw[hnone]
   simp[List.lookup]
  ·have:=e3 i s (by simp only[List.getElem?_set,Ne.symm hij,if_false];exact hi)
   rw[this]
   have hb:(i == j)=false:=by simp[hij]
   simp[List.lookup,hb]
theorem z3p{hs:List (Nat × Nat)}{i lv:Nat}(hn:(hs.map (·.1)).Nodup)(hm:(i,lv)∈hs):hs.lookup i=some lv:=by
 induction hs with
 |nil=>cases hm
 |cons a hs ih =>
  obtain⟨j,m⟩:=a
  simp only[List.map_cons,List.nodup_cons] at hn
  rcases List.mem_cons.1 hm with e|hm2
  ·simp only[Prod.mk.injEq] at e
   obtain⟨rfl,rfl⟩:=e
   simp[List.lookup]
  ·have:i≠j:=by
    rintro rfl
    exact hn.1 (List.mem_map.2 ⟨(i,lv),hm2,rfl⟩)
   have hb:(i == j)=false:=by simp[this]
   simp only[List.lookup,hb]
   exact ih hn.2 hm2
theorem zyz{hs:List (Nat × Nat)}{i:Nat}(h:∀ lv,(i,lv)∉hs):hs.lookup i=none:=by
 rw[List.lookup_eq_none_iff]
 rintro⟨j,m⟩ hx
 have:i≠j:=by rintro rfl;exact h m hx
 simpa using this
structure JAt (r:zai) (Ts Ns:List zad) (W:Nat) (J:zaw) (d:Nat):Prop where
 stat:zjr r Ts Ns J
 nodes:yco r J d
 nob:yd8 r Ns J.values d
 «from» : ∀ i,i < d->J.from.getD i 0=J.values.getD i 0+1
 small:∀ i,i < d->J.values.getD i 0 < W
theorem zjr.same{r:zai}{Ts Ns:List zad}{J J':zaw}(h:zjr r Ts Ns J)(s:zl8 J J'):zjr r Ts Ns J':=by
 rw[s];exact⟨h.head,h.vars,h.holds,h.backs,h.last,h.bars,h.sides,h.vlen,h.flen⟩
theorem JAt.same{r:zai}{Ts Ns:List zad}{W:Nat}{J J':zaw}{d:Nat}(h:JAt r Ts Ns W J d)(s:zl8 J J'):JAt r Ts Ns W J' d:=by
 refine⟨h.stat.same s,?_,?_,?_,?_⟩
 ·rw[s];exact h.nodes
 ·rw[s];exact h.nob
 ·rw[s];exact h.from
 ·rw[s];exact h.small
theorem JAt.back{r:zai}{Ts Ns:List zad}{W:Nat}{J:zaw}{d b:Nat}(h:JAt r Ts Ns W J d)(hb:b<=d):JAt r Ts Ns W J b:=by
 refine⟨h.stat,fun i l s hl hs=>?_,fun x hx hk=>h.nob x hx (by omega),fun i hi=>h.from i (by omega),fun i hi=>h.small i (by omega)⟩
 obtain⟨n1,n2,n3⟩:=h.nodes i l s hl hs
 have hle:(zck l b).length<=(zck l d).length:=(zuw l hb).length_le
 refine⟨n1,fun k hk h3=>?_,?_⟩
 ·rw[zkh l J.values hb,List.take_take,Nat.min_eq_left hk]
  exact n2 k (by omega) h3
 ·rw[zkh l J.values hb]
  have hsp:zb9 l J.values d=(zb9 l J.values d).take (zck l b).length++(zb9 l J.values d).drop (zck l b).length:=(List.take_append_drop _ _).symm
  rw[hsp,zf8] at n3
  cases hg:goT s.rows 0 ((zb9 l J.values d).take (zck l b).length) with
  |none=>rw[hg] at n3;cases n3
  |some x=>rfl
theorem zjr.side{r:zai}{Ts Ns:List zad}{J:zaw}(h:zjr r Ts Ns J){i:Nat}{s:ze0}(hs:J.sides[i]?=some s):Ts[i]?=some s.rows:=by
 rw[← h.sides];simp[hs]
theorem zjr.some{r:zai}{Ts Ns:List zad}{W:Nat}{J:zaw}(h:zjr r Ts Ns J)(hf:zd8 r Ts W){i:Nat}{l:zal}(hl:r.plain[i]?=some l):∃ s,J.sides[i]?=some s:=by
 have h1:J.sides.length=r.plain.length:=by rw[← hf.len,← h.sides];simp
 have h2:i < r.plain.length:=(List.getElem?_eq_some_iff.1 hl).1
 exact⟨_,List.getElem?_eq_getElem (by omega)⟩
theorem zjr.holdsAt{r:zai}{Ts Ns:List zad}{J:zaw}(h:zjr r Ts Ns J){d:Nat}(hd:d < 5):J.holds.getD d []=zb5 r d:=by
 rw[h.holds];simp[List.getD,hd]
theorem JAt.hold{r:zai}{Ts Ns:List zad}{W:Nat}{J:zaw}{d:Nat}(h:JAt r Ts Ns W J d)(hr:zgi r)(hf:zd8 r Ts W){x:Nat × Nat}(hx:x∈zb5 r d) :
  ∃ l s,r.plain[x.1]?=some l/\J.sides[x.1]?=some s/\zdl l d=true/\x.2=(zck l d).length/\x.2 < 3/\zcs J x=true/\zep s.rows/\s.rows.width<=W/\∀ v,goT s.rows 0 (zb9 l J.values d++[v])=zjb J x v:=by
 obtain⟨i,lv⟩:=x
 obtain⟨l,h1,h2,h3⟩:=zv5 hx
 obtain⟨s,hs⟩:=h.stat.some hf h1
 have hlv:(zck l (d+1)).length=lv+1:=by rw[ze5,if_pos h2,h3];simp
 have h4:lv < 3:=by
  have:=zl4 l (d+1)
  have:=hr.terms l (List.mem_of_getElem? h1)
  omega
 have hil:i < J.sides.length:=(List.getElem?_eq_some_iff.1 hs).1
 obtain⟨t1,t2,t3⟩:=hf.ok i l s.rows h1 (h.stat.side hs)
 refine⟨l,s,h1,hs,h2,h3,h4,by simp[zcs,hil,h4],t1,t3,fun v=>?_⟩
 obtain⟨n1,n2,n3⟩:=h.nodes i l s h1 hs
 have:=n2 lv (by omega) h4
 rw[h3,show(zb9 l J.values d).take (zck l d).length=zb9 l J.values d by rw[← zht l J.values d];exact List.take_length] at this
 rw[zf8,this]
 unfold zjb
 simp only[List.getD,hs,Option.getD_some,Option.bind_some,goT,h3]
 cases zaz s.rows _ v <;> rfl
theorem zt3{r:zai}{Ts Ns:List zad}{J:zaw}(h:zjr r Ts Ns J)(k:Nat):zb6 J k=true↔∃ x∈r.nots.zip Ns,zdw x.1=k/\(zd5 x.2 (zcv x.1 J.values)).isSome=true:=by
 unfold zb6
 rw[h.bars,List.any_map,List.any_eq_true]
 simp
theorem JAt.take{r:zai}{Ts Ns:List zad}{W:Nat}{J:zaw}{d v:Nat}(h:JAt r Ts Ns W J d)(hr:zgi r)(hf:zd8 r Ts W)(hd:d < r.vars)(hv:∀ x∈zb5 r d,(zjb J x v).isSome=true)(hW:v < W) :
  (zgg J d v).values=J.values.set d v/\(∀ i,i < d->(zgg J d v).from.getD i 0=J.from.getD i 0)/\(zgg J d v).from.getD d 0=v+1/\(d+1 < 5->(zgg J d v).from.getD (d+1) 0=0)/\JAt r Ts Ns W (zgg J d v) d/\(zb6 (zgg J d v) (d+1)=false->JAt r Ts Ns W (zgg J d v) (d+1)):=by
 have hv5:=hr.vars
 have hd5:d < 5:=by omega
 have hvl:=h.stat.vlen
 have hfl:=h.stat.flen
 unfold zgg
 rw[if_neg (by omega),h.stat.holdsAt hd5]
 obtain⟨ss,e1,e2,e3⟩:=zsc v (zb5 r d) { J with values:=J.values.set d v,«from»:=(if d+1 < 5 then(J.from.set d (v+1)).set (d+1) 0 else J.from.set d (v+1)) } (zp2 r d) (fun x hx=>by
  obtain⟨_,_,_,_,_,_,_,q,_⟩:=h.hold hr hf hx
  unfold zcs at q ⊢
  exact q)
 rw[e1]
 simp only at e2 e3 ⊢
 have hfr:∀ i,i < d->(if d+1 < 5 then(J.from.set d (v+1)).set (d+1) 0 else J.from.set d (v+1)).getD i 0=J.from.getD i 0:=by
  intro i hi
  split
  ·rw[zao,if_neg (by omega),zao,if_neg (by omega)]
  ·rw[zao,if_neg (by omega)]
 have hfd:(if d+1 < 5 then(J.from.set d (v+1)).set (d+1) 0 else J.from.set d (v+1)).getD d 0=v+1:=by
  split
  ·rw[zao,if_neg (by omega),zao,if_pos ⟨rfl,by omega⟩]
  ·rw[zao,if_pos ⟨rfl,by omega⟩]
 have hrows:ss.map (·.rows)=Ts:=by
  rw[← h.stat.sides]
  refine List.ext_getElem? fun i=>?_
  simp only[List.getElem?_map]
  cases hs:J.sides[i]? with
  |none =>
   have:J.sides.length<=i:=List.getElem?_eq_none_iff.1 hs
   rw[List.getElem?_eq_none (by omega)]
  |some s =>
   rw[e3 i s hs]
   simp only[Option.map_some,Option.some.injEq]
   cases (zb5 r d).lookup i with
   |none=>rfl
   |some lv=>simp only[setDown];split <;> rfl
 have hstat:zjr r Ts Ns { J with sides:=ss,values:=J.values.set d v,«from»:=(if d+1 < 5 then(J.from.set d (v+1)).set (d+1) 0 else J.from.set d (v+1)) }:=⟨h.stat.head,h.stat.vars,h.stat.holds,h.stat.backs,h.stat.last,h.stat.bars,hrows,by simpa using hvl,by show(if d+1 < 5 then(J.from.set d (v+1)).set (d+1) 0 else J.from.set d (v+1)).length=5;split <;> simpa using hfl⟩
 have hlow:∀ l:zal,zb9 l (J.values.set d v) d=zb9 l J.values d:=fun l=>zjj l fun p hp _=>by rw[zao,if_neg (by omega)]
 have hnodes:∀(i:Nat) (l:zal) (s s':ze0),r.plain[i]?=some l->J.sides[i]?=some s->ss[i]?=some s'->s'.nodes.length=3/\(∀ k,k<=(zck l d).length->k < 3->goT s'.rows 0 ((zb9 l J.values d).take k)=some (s'.nodes.getD k 0))/\(goT s'.rows 0 (zb9 l J.values d)).isSome=true/\(∀ k,k<=(zck l (d+1)).length->k < 3->goT s'.rows 0 ((zb9 l (J.values.set d v) (d+1)).take k)=some (s'.nodes.getD k 0))/\(goT s'.rows 0 (zb9 l (J.values.set d v) (d+1))).isSome=true:=by
  intro i l s s' hl hs hs'
  obtain⟨n1,n2,n3⟩:=h.nodes i l s hl hs
  rw[e3 i s hs] at hs'
  by_cases hh:zdl l d=true
  ·have hm:=holds_of hl hh
   rw[z3p (zp2 r d) hm] at hs'
   simp only[Option.some.injEq] at hs'
   obtain⟨l',s0,q1,q2,_,q4,q5,_,_,_,q9⟩:=h.hold hr hf hm
   simp only at q1 q2 q5
   rw[hl] at q1;rw[hs] at q2
   simp only[Option.some.injEq] at q1 q2
   subst q1;subst q2
   have hvv:=hv _ hm
   obtain⟨bb,hbb⟩:=Option.isSome_iff_exists.1 hvv
   have hgo:=q9 v
   rw[hbb] at hgo
   have hp:zb9 l (J.values.set d v) (d+1)=zb9 l J.values d++[v]:=by rw[zs5 l _ _ _ (by omega),if_pos hh]
   have hrow':s'.rows=s.rows:=by rw[← hs'];unfold setDown;split <;> rfl
   have hlen:(zb9 l J.values d).length=(zck l d).length:=zht _ _ _
   have hnd:∀ k,k<=(zck l d).length->s'.nodes.getD k 0=s.nodes.getD k 0:=by
    intro k hk
    rw[← hs'];unfold setDown;split
    ·rfl
    ·rw[zao,if_neg (by omega)]
   have hdn:zaz s.rows (s.nodes.getD (zck l d).length 0) v=some bb:=by
    unfold zjb at hbb
    simpa [List.getD,hs] using hbb
   refine⟨by rw[← hs'];unfold setDown;split <;> simp[n1],fun k hk h3=>by rw[hrow',hnd k hk];exact n2 k hk h3,by rw[hrow'];exact n3,fun k hk h3=>?_,by rw[hrow',hp,hgo];rfl⟩
   rw[hrow',hp]
   rw[ze5,if_pos hh,List.length_append,List.length_singleton] at hk
   by_cases hk2:k<=(zck l d).length
   ·rw[List.take_append_of_le_length (by omega),hnd k hk2]
    exact n2 k hk2 h3
   ·have:k=(zck l d).length+1:=by omega
    subst this
    rw[List.take_of_length_le (by simp[hlen]),hgo,← hs']
    unfold setDown
    rw[if_neg (by omega)]
    simp only
    rw[zao,if_pos ⟨rfl,by omega⟩,hdn]
    rfl
  ·have hno:∀ lv,(i,lv)∉zb5 r d:=fun lv hm=>by
    obtain⟨l',q1,q2,_⟩:=zv5 hm
    rw[hl] at q1
    simp only[Option.some.injEq] at q1
    subst q1
    exact hh q2
   rw[zyz hno] at hs'
   simp only[Option.some.injEq] at hs'
   subst hs'
   have hp:zb9 l (J.values.set d v) (d+1)=zb9 l J.values d:=by rw[zs5 l _ _ _ (by omega),if_neg hh]
   have hvv:zck l (d+1)=zck l d:=by rw[ze5,if_neg hh]
   exact⟨n1,n2,n3,by rw[hp,hvv];exact n2,by rw[hp];exact n3⟩
 have hside:∀(i:Nat) (l:zal) (s':ze0),r.plain[i]?=some l->ss[i]?=some s'->∃ s,J.sides[i]?=some s:=fun i l s' hl _=>h.stat.some hf hl
 have hrl:∀ x∈r.nots.zip Ns,zdw x.1<=d->zcv x.1 (J.values.set d v)=zcv x.1 J.values:=fun x _ hk=>zgd x.1 fun p hp=>by
  have:=zmr x.1 hp
  rw[zao,if_neg (by omega)]
 refine⟨trivial,hfr,hfd,fun h5=>?_,⟨hstat,fun i l s' hl hs'=>?_,fun x hx hk=>?_,fun i hi=>?_,fun i hi=>?_⟩,fun hb=>⟨hstat,fun i l s' hl hs'=>?_,fun x hx hk=>?_,fun i hi=>?_,fun i hi=>?_⟩⟩
 ·rw[if_pos h5,zao,if_pos ⟨rfl,by simp;omega⟩]
 ·obtain⟨s,hs⟩:=hside i l s' hl hs'
  obtain⟨a1,a2,a3,_,_⟩:=hnodes i l s s' hl hs hs'
  exact⟨a1,by rw[hlow];exact a2,by rw[hlow];exact a3⟩
 ·show zd5 x.2 (zcv x.1 (J.values.set d v))=none
  rw[hrl x hx hk];exact h.nob x hx hk
 ·show(if d+1 < 5 then _ else _:List Nat).getD i 0=(J.values.set d v).getD i 0+1
  rw[hfr i hi,zao,if_neg (by omega)];exact h.from i hi
 ·show(J.values.set d v).getD i 0 < W
  rw[zao,if_neg (by omega)];exact h.small i hi
 ·obtain⟨s,hs⟩:=hside i l s' hl hs'
  obtain⟨a1,_,_,a4,a5⟩:=hnodes i l s s' hl hs hs'
  exact⟨a1,a4,a5⟩
 ·show zd5 x.2 (zcv x.1 (J.values.set d v))=none
  by_cases hkd:zdw x.1<=d
  ·rw[hrl x hx hkd];exact h.nob x hx hkd
  ·cases hm:zd5 x.2 (zcv x.1 (J.values.set d v)) with
   |none=>rfl
   |some m =>
    have:=(zt3 hstat (d+1)).2 ⟨x,hx,by omega,by show(zd5 x.2 (zcv x.1 (J.values.set d v))).isSome=true;rw[hm];rfl⟩
    rw[hb] at this;cases this
 ·show(if d+1 < 5 then _ else _:List Nat).getD i 0=(J.values.set d v).getD i 0+1
  by_cases hi2:i=d
  ·subst hi2
   rw[hfd,zao,if_pos ⟨rfl,by omega⟩]
  ·rw[hfr i (by omega),zao,if_neg (by omega)];exact h.from i (by omega)
 ·show(J.values.set d v).getD i 0 < W
  by_cases hi2:i=d
  ·subst hi2
   rw[zao,if_pos ⟨rfl,by omega⟩];exact hW
  ·rw[zao,if_neg (by omega)];exact h.small i (by omega)
end Go.Proofs.YteampbddflhngabGreat
