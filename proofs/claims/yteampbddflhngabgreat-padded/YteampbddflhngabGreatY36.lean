import Derived.Test.YteampbddflhngabGreatY35

namespace Go.Proofs.YteampbddflhngabGreat
def zcg(l:zak)(d:Nat):List Nat:=(List.range d).filter (zde l)
def zb6(l:zak)(vals:List Nat)(d:Nat):zao:=(zcg l d).map fun p=>vals.getD p 0
theorem zeo(l:zak)(d:Nat):zcg l (d+1)=if zde l d then zcg l d++[d] else zcg l d:=by
 unfold zcg
 rw[List.range_succ,List.filter_append]
 by_cases h:zde l d <;> simp[h]
theorem zh1(l:zak)(d p:Nat):p∈zcg l d↔p < d/\zde l p=true:=by simp[zcg]
theorem zr9(l:zak){a b:Nat}(h:a<=b):zcg l a <+: zcg l b:=by
 induction h with
 |refl=>exact List.prefix_rfl
 |step h ih =>
  rw[zeo]
  split
  ·exact ih.trans (List.prefix_append _ _)
  ·exact ih
theorem zoe(l:zak)(p:Nat):zbr l p=if zde l p then some (zcg l p).length else none:=by
 unfold zbr zcg
 rw[List.countP_eq_length_filter]
theorem zeb(l:zak):zbb l=(zcg l 5).length:=by
 unfold zbb zcg
 rw[List.countP_eq_length_filter]
theorem zg1(l:zak)(vals:List Nat)(d:Nat):(zb6 l vals d).length=(zcg l d).length:=by simp[zb6]
theorem zia(l:zak){x y:List Nat}{d:Nat}(h:∀ p,p < d->zde l p=true->x.getD p 0=y.getD p 0):zb6 l x d=zb6 l y d:=by
 unfold zb6
 refine List.map_congr_left fun p hp=>?_
 have:=(zh1 l d p).1 hp
 exact h p this.1 this.2
theorem zi7(l:zak)(vals:List Nat){a b:Nat}(h:a<=b):zb6 l vals a=(zb6 l vals b).take (zcg l a).length:=by
 obtain⟨t,ht⟩:=zr9 l h
 unfold zb6
 rw[← ht]
 simp
theorem zqr(l:zak)(vals:List Nat)(d v:Nat)(hd:d < vals.length):zb6 l (vals.set d v) (d+1)=if zde l d then zb6 l vals d++[v] else zb6 l vals d:=by
 have h0:(zcg l d).map (fun p=>(vals.set d v).getD p 0)=(zcg l d).map fun p=>vals.getD p 0:=by
  refine List.map_congr_left fun p hp=>?_
  have:=(zh1 l d p).1 hp
  rw[zam,if_neg (by omega)]
 unfold zb6
 rw[zeo]
 split
 ·rw[List.map_append,h0]
  simp[hd]
 ·exact h0
theorem zqj:∀ {l1 l2:List Nat},l1.Nodup->(∀ x∈l1,x∈l2)->l1.length<=l2.length
 |[],l2,_,_=>by simp
 |a::l1,l2,hn,hs=>by
  have ha:=hs a (by simp)
  have h1:=zqj (l1:=l1) (l2:=l2.erase a) (List.nodup_cons.1 hn).2 (fun x hx=>by
   have hne:x≠a:=by rintro rfl;exact(List.nodup_cons.1 hn).1 hx
   exact(List.mem_erase_of_ne hne).2 (hs x (by simp[hx])))
  rw[List.length_erase_of_mem ha] at h1
  have:=List.length_pos_of_mem ha
  simp;omega
theorem zfg(l:zak)(p:Nat):zde l p=true↔∃ t∈l.terms,t.var=true/\t.num=p:=by
 unfold zde
 rw[List.any_eq_true]
 constructor
 ·rintro⟨t,h1,h2⟩
  simp only[Bool.and_eq_true,beq_iff_eq] at h2
  exact⟨t,h1,h2.1,h2.2⟩
 ·rintro⟨t,h1,h2,h3⟩
  exact⟨t,h1,by simp[h2,h3]⟩
theorem zkp(l:zak)(d:Nat):(zcg l d).length<=l.terms.length:=by
 have:=zqj (l1:=zcg l d) (l2:=l.terms.map (·.num)) (List.nodup_range.filter _) (fun p hp=>by
  obtain⟨t,h1,_,h3⟩:=(zfg l p).1 ((zh1 l d p).1 hp).2
  exact List.mem_map.2 ⟨t,h1,h3⟩)
 simpa using this
theorem zlc(known:Int):∀(ts:List zbn) (k:Int),k<=ts.foldl (fun k t=>if t.var && decide ((t.num:Int) < known) && decide ((t.num:Int) > k) then(t.num:Int) else k) k/\(∀ t∈ts,t.var=true->(t.num:Int) < known->(t.num:Int)<=ts.foldl (fun k t=>if t.var && decide ((t.num:Int) < known) && decide ((t.num:Int) > k) then(t.num:Int) else k) k)/\(k < known->ts.foldl (fun k t=>if t.var && decide ((t.num:Int) < known) && decide ((t.num:Int) > k) then(t.num:Int) else k) k < known)
 |[],k=>⟨Int.le_refl _,fun t h=>(by cases h),fun h=>h⟩
 |t::ts,k=>by
  simp only[List.foldl_cons]
  by_cases hc:(t.var && decide ((t.num:Int) < known) && decide ((t.num:Int) > k))=true
  ·rw[if_pos hc]
   simp only[Bool.and_eq_true,decide_eq_true_eq] at hc
   obtain⟨i1,i2,i3⟩:=zlc known ts (t.num:Int)
   refine⟨by omega,fun u hu hv hk=>?_,fun _=>i3 (by omega)⟩
   rcases List.mem_cons.1 hu with rfl|hu
   ·exact i1
   ·exact i2 u hu hv hk
  ·rw[if_neg hc]
   obtain⟨i1,i2,i3⟩:=zlc known ts k
   refine⟨i1,fun u hu hv hk=>?_,i3⟩
   rcases List.mem_cons.1 hu with rfl|hu
   ·have:(u.num:Int)<=k:=by
     simp only[hv,hk,Bool.true_and,decide_true,decide_eq_true_eq] at hc
     omega
    omega
   ·exact i2 u hu hv hk
theorem zrr(l:zak){known:Int}{p:Nat}(hp:zde l p=true)(hk:(p:Int) < known):(p:Int)<=zij l known:=by
 obtain⟨t,h1,h2,h3⟩:=(zfg l p).1 hp
 have:=(zlc known l.terms (-1)).2.1 t h1 h2 (by omega)
 unfold zij
 omega
theorem zxu(l:zak){known:Int}(hk:0<=known):zij l known < known:=(zlc known l.terms (-1)).2.2 (by omega)
theorem z2s(l:zak)(known:Int):-1<=zij l known:=(zlc known l.terms (-1)).1
theorem zk9:∀(ts:List zbn) (k:Nat),k<=ts.foldl (fun k t=>if t.var && decide (t.num ≥ k) then t.num+1 else k) k/\(∀ t∈ts,t.var=true->t.num < ts.foldl (fun k t=>if t.var && decide (t.num ≥ k) then t.num+1 else k) k)/\∀ b,k<=b->(∀ t∈ts,t.var=true->t.num < b)->ts.foldl (fun k t=>if t.var && decide (t.num ≥ k) then t.num+1 else k) k<=b
 |[],k=>⟨Nat.le_refl _,fun t h=>(by cases h),fun b h _=>h⟩
 |t::ts,k=>by
  simp only[List.foldl_cons]
  by_cases hc:(t.var && decide (t.num ≥ k))=true
  ·rw[if_pos hc]
   simp only[Bool.and_eq_true,decide_eq_true_eq] at hc
   obtain⟨i1,i2,i3⟩:=zk9 ts (t.num+1)
   refine⟨by omega,fun u hu hv=>?_,fun b hb hq=>i3 b (by have:=hq t (by simp) hc.1;omega) fun u hu=>hq u (by simp[hu])⟩
   rcases List.mem_cons.1 hu with rfl|hu
   ·omega
   ·exact i2 u hu hv
  ·rw[if_neg hc]
   obtain⟨i1,i2,i3⟩:=zk9 ts k
   refine⟨i1,fun u hu hv=>?_,fun b hb hq=>i3 b hb fun u hu=>hq u (by simp[hu])⟩
   rcases List.mem_cons.1 hu with rfl|hu
   ·have:u.num < k:=by simp only[hv,Bool.true_and,decide_eq_true_eq] at hc;omega
    omega
   ·exact i2 u hu hv
theorem zla(l:zak){p:Nat}(hp:zde l p=true):p < zdn l:=by
 obtain⟨t,h1,h2,h3⟩:=(zfg l p).1 hp
 have:=(zk9 l.terms 0).2.1 t h1 h2
 unfold zdn
 omega
theorem zts(l:zak){k:Nat}(h:∀ p,zde l p=true->p < k):zdn l<=k :=
 (zk9 l.terms 0).2.2 k (by omega) fun t ht hv=>h t.num ((zfg l t.num).2 ⟨t,ht,hv,rfl⟩)
theorem z7h(l:zak){known:Int}(hk:0<=known):zh0 l known < known:=by
 unfold zh0;split
 ·omega
 ·exact zxu l hk
theorem zrm(known:Int):∀(ls:List zak) (b:Int),b<=ls.foldl (zbc known) b/\(∀ l∈ls,zh0 l known<=ls.foldl (zbc known) b)/\(0<=known->b < known->ls.foldl (zbc known) b < known)
 |[],b=>⟨Int.le_refl _,fun l h=>(by cases h),fun _ h=>h⟩
 |l::ls,b=>by
  simp only[List.foldl_cons]
  obtain⟨i1,i2,i3⟩:=zrm known ls (zbc known b l)
  have hs:b<=zbc known b l/\zh0 l known<=zbc known b l:=by unfold zbc;split <;> omega
  refine⟨by omega,fun u hu=>?_,fun h0 hb=>i3 h0 ?_⟩
  ·rcases List.mem_cons.1 hu with rfl|hu
   ·omega
   ·exact i2 u hu
  ·have:=z7h l h0
   unfold zbc;split <;> omega
theorem zl2(r:zah){known:Int}(hk:0<=known):zd7 r known < known/\-1<=zd7 r known/\zij r.head known<=zd7 r known/\(∀ l∈r.plain,zh0 l known<=zd7 r known)/\∀ l∈r.nots,zh0 l known<=zd7 r known:=by
 unfold zd7
 obtain⟨a1,a2,a3⟩:=zrm known r.plain (zij r.head known)
 obtain⟨b1,b2,b3⟩:=zrm known r.nots (r.plain.foldl (zbc known) (zij r.head known))
 have:=z2s r.head known
 exact⟨b3 hk (a3 hk (zxu r.head hk)),by omega,by omega,fun l hl=>by have:=a2 l hl;omega,b2⟩
theorem zyj{l:zak}{known:Nat}{b:Int}(h:zh0 l known<=b):(∀ p,zde l p=true->p < known)∨∀ p,zde l p=true->p < known->(p:Int)<=b:=by
 unfold zh0 at h
 by_cases hc:(zdn l:Int)<=known
 ·exact Or.inl fun p hp=>by have:=zla l hp;omega
 ·rw[if_neg hc] at h
  exact Or.inr fun p hp hk=>by have:=zrr l (known:=(known:Int)) hp (by omega);omega
structure zf2 (r:zah):Prop where
 vars:r.vars<=5
 terms:∀ l∈r.plain,l.terms.length<=3
 plain:∀ l∈r.plain,∀ p,zde l p=true->p < r.vars
 nots:∀ l∈r.nots,∀ p,zde l p=true->p < r.vars
 head:∀ p,zde r.head p=true->p < r.vars
 safe:∀ p,p < r.vars->∃ l∈r.plain,zde l p=true
structure zdx (r:zah) (Ts:List zad) (W:Nat):Prop where
 len:Ts.length=r.plain.length
 ok:∀(i:Nat) (l:zak) (T:zad),r.plain[i]?=some l->Ts[i]?=some T->zd8 T/\T.depth=zby (zbb l)/\T.width<=W
structure zih (r:zah) (Ts Ns:List zad) (J:zav):Prop where
 head:J.head=r.head
 vars:J.vars=r.vars
 holds:J.holds=(List.range 5).map (zb2 r)
 backs:J.backs=(List.range 5).map fun p=>zd7 r (p:Nat)
 last:J.last=zd7 r r.vars
 bars:J.bars=(r.nots.zip Ns).map fun x=>⟨x.1,zdn x.1,x.2⟩
 sides:J.sides.map (·.rows)=Ts
 vlen:J.values.length=5
 flen:J.from.length=5
theorem zfy(l:zak){x y:List Nat}(h:∀ p,zde l p=true->x.getD p 0=y.getD p 0):zcs l x=zcs l y:=by
 have hc:∀ i,rowCell l x i=rowCell l y i:=by
  intro i
  unfold rowCell
  split
  ·rename_i hi
   unfold atT
   rw[show l.terms.getD i ⟨false,0,0⟩=l.terms[i] by simp[List.getD,hi]]
   split
   ·rename_i hv
    simp only[Bool.and_eq_true,decide_eq_true_eq] at hv
    exact h _ ((zfg l _).2 ⟨_,List.getElem_mem hi,hv.1,rfl⟩)
   ·rfl
  ·rfl
 unfold zcs
 rw[hc,hc,hc]
def z9v(T:zad)(l:zak)(y:List Nat):Prop:=(zbb l=0->T.count≠0)/\(zbb l≠0->(zjz T (zb6 l y 5)).isSome=true)
def zsd(r:zah)(Ts Ns:List zad)(y:List Nat):Prop:=(∀(i:Nat) (l:zak) (T:zad),r.plain[i]?=some l->Ts[i]?=some T->z9v T l y)/\∀ x∈r.nots.zip Ns,zdt x.2 (zcs x.1 y)=none
theorem z0r{r:zah}{l:zak}(hl:∀ p,zde l p=true->p < r.vars){d:Nat}(hd:r.vars<=d):zcg l d=zcg l r.vars:=by
 induction hd with
 |refl=>rfl
 |@step m h ih =>
  rw[zeo,if_neg (fun q=>by have:=hl _ q;have:r.vars<=m:=h;omega),ih]
theorem zz9{r:zah}(hv:r.vars<=5){l:zak}(hl:∀ p,zde l p=true->p < r.vars)(y:List Nat):zb6 l y 5=zb6 l y r.vars:=by
 unfold zb6
 rw[z0r hl hv]
def z7w(r:zah)(J:zav)(d:Nat):Prop:=∀(i:Nat) (l:zak) (s:zej),r.plain[i]?=some l->J.sides[i]?=some s->s.nodes.length=3/\(∀ k,k<=(zcg l d).length->k < 3->goT s.rows 0 ((zb6 l J.values d).take k)=some (s.nodes.getD k 0))/\(goT s.rows 0 (zb6 l J.values d)).isSome=true
def z94(r:zah)(Ns:List zad)(vals:List Nat)(d:Nat):Prop:=∀ x∈r.nots.zip Ns,zdn x.1<=d->zdt x.2 (zcs x.1 vals)=none
theorem ztk{r:zah}{d i lv:Nat}(h:(i,lv)∈zb2 r d):∃ l,r.plain[i]?=some l/\zde l d=true/\lv=(zcg l d).length:=by
 unfold zb2 at h
 simp only[List.mem_filterMap,Option.map_eq_some_iff,Prod.mk.injEq] at h
 obtain⟨⟨l,j⟩,h1,lv',h2,h3,h4⟩:=h
 rw[zoe] at h2
 split at h2
 ·rename_i hh
  simp only[Option.some.injEq] at h2
  have:=List.mem_zipIdx_iff_getElem?.1 h1
  simp only at this h3 hh h2
  subst h3
  exact⟨l,this,hh,by omega⟩
 ·cases h2
theorem holds_of{r:zah}{d i:Nat}{l:zak}(h:r.plain[i]?=some l)(hh:zde l d=true):(i,(zcg l d).length)∈zb2 r d:=by
 unfold zb2
 simp only[List.mem_filterMap,Option.map_eq_some_iff,Prod.mk.injEq]
 refine⟨(l,i),List.mem_zipIdx_iff_getElem?.2 h,(zcg l d).length,?_,rfl,rfl⟩
 rw[zoe,if_pos hh]
theorem zoa(r:zah)(d:Nat):((zb2 r d).map (·.1)).Nodup:=by
 unfold zb2
 have key:∀(ls:List zak) (n:Nat),(((ls.zipIdx n).filterMap fun x=>(zbr x.1 d).map fun lv=>(x.2,lv)).map (·.1)).Nodup/\∀ i∈((ls.zipIdx n).filterMap fun x=>(zbr x.1 d).map fun lv=>(x.2,lv)).map (·.1),n<=i:=by
  intro ls
  induction ls with
  |nil=>intro n;simp
  |cons l ls ih =>
   intro n
   obtain⟨i1,i2⟩:=ih (n+1)
   rw[List.zipIdx_cons,List.filterMap_cons]
   cases hl:(zbr l d).map fun lv=>(n,lv) with
   |none=>exact⟨i1,fun i hi=>by have:=i2 i hi;omega⟩
   |some x =>
    have hx:x.1=n:=by
     simp only[Option.map_eq_some_iff] at hl
     obtain⟨a,_,rfl⟩:=hl
     rfl
    simp only[List.map_cons,List.nodup_cons,List.mem_cons]
    refine⟨⟨fun hm=>by have:=i2 _ hm;omega,i1⟩,?_⟩
    rintro i (rfl|hi)
    ·omega
    ·have:=i2 i hi;omega
 exact(key r.plain 0).1
def setDown(v lv:Nat)(s:zej):zej:=if lv+1 ≥ 3 then s else{ s with nodes:=s.nodes.set (lv+1) ((zax s.rows (s.nodes.getD lv 0) v).getD 0) }
theorem zy9{J:zav}{v:Nat}{h:Nat × Nat}(hs:zcq J h=true):zek v J h={ J with sides:=J.sides.set h.1 (setDown v h.2 (J.sides.getD h.1 zej.zero)) }:=by
 unfold zek setDown
 by_cases h3:h.2+1 ≥ 3
 ·rw[if_pos (Or.inr h3),if_pos h3]
  have hl:h.1 < J.sides.length:=by simp only[zcq,Bool.and_eq_true,decide_eq_true_eq] at hs;exact hs.1
  have:J.sides.set h.1 (J.sides.getD h.1 zej.zero)=J.sides:=by
   rw[show J.sides.getD h.1 zej.zero=J.sides[h.1] by simp[List.getD,hl]]
   exact List.set_getElem_self _
  rw[this]
 ·rw[if_neg (by rintro(q|q);rw[hs] at q;cases q;exact h3 q),if_neg h3]
theorem zp2(v:Nat):∀(hs:List (Nat × Nat)) (J:zav),(hs.map (·.1)).Nodup->(∀ h∈hs,zcq J h=true)->∃ ss,hs.foldl (zek v) J={ J with sides:=ss }/\ss.length=J.sides.length/\∀ i s,J.sides[i]?=some s->ss[i]?=some (match hs.lookup i with|none=>s|some lv=>setDown v lv s)
 |[],J,_,_=>⟨J.sides,rfl,rfl,fun i s h=>by simpa using h⟩
 |(j,lv)::hs,J,hn,hst=>by
  simp only[List.foldl_cons]
  have h0:=hst (j,lv) (by simp)
  rw[zy9 h0]
  simp only
  have hjl:j < J.sides.length:=by simp only[zcq,Bool.and_eq_true,decide_eq_true_eq] at h0;exact h0.1
  simp only[List.map_cons,List.nodup_cons] at hn
  obtain⟨ss,e1,e2,e3⟩:=zp2 v hs { J with sides:=J.sides.set j (setDown v lv (J.sides.getD j zej.zero)) } hn.2 (fun h hh=>by
   have:=hst h (by simp[hh])
   unfold zcq at this ⊢
   simpa using this)
  refine⟨ss,e1,by simpa using e2,fun i s hi=>?_⟩
  by_cases hij:i=j
  ·subst hij
   have hg:J.sides.getD i zej.zero=s:=by simp[List.getD,hi]
   have:=e3 i (setDown v lv s) (by rw[hg];simp[hjl])
   rw[this]
   have hnone:hs.lookup i=none:=by
    rw[List.lookup_eq_none_iff]
    intro x hx
    have:x.1≠i:=by
     rintro rfl
     exact hn.1 (List.mem_map.2 ⟨x,hx,rfl⟩)
    simpa using fun q=>this q.symm
   rw[hnone]
   simp[List.lookup]
  ·have:=e3 i s (by simp only[List.getElem?_set,Ne.symm hij,if_false];exact hi)
   rw[this]
   have hb:(i == j)=false:=by simp[hij]
   simp[List.lookup,hb]
theorem zzx{hs:List (Nat × Nat)}{i lv:Nat}(hn:(hs.map (·.1)).Nodup)(hm:(i,lv)∈hs):hs.lookup i=some lv:=by
 induction hs with
 |nil=>cases hm
 |cons a hs ih =>
  obtain⟨j,m⟩:=a
  simp only[List.map_cons,List.nodup_cons] at hn
  rcases List.mem_cons.1 hm with e|hm2
  ·simp only[Prod.mk.injEq] at e
   obtain⟨rfl,rfl⟩:=e
   simp[List.lookup]
  ·have:i≠j:=by
    rintro rfl
    exact hn.1 (List.mem_map.2 ⟨(i,lv),hm2,rfl⟩)
   have hb:(i == j)=false:=by simp[this]
   simp only[List.lookup,hb]
   exact ih hn.2 hm2
theorem zv9{hs:List (Nat × Nat)}{i:Nat}(h:∀ lv,(i,lv)∉hs):hs.lookup i=none:=by
 rw[List.lookup_eq_none_iff]
 rintro⟨j,m⟩ hx
 have:i≠j:=by rintro rfl;exact h m hx
 simpa using this
structure JAt (r:zah) (Ts Ns:List zad) (W:Nat) (J:zav) (d:Nat):Prop where
 stat:zih r Ts Ns J
 nodes:z7w r J d
 nob:z94 r Ns J.values d
 «from» : ∀ i,i < d->J.from.getD i 0=J.values.getD i 0+1
 small:∀ i,i < d->J.values.getD i 0 < W
theorem zih.same{r:zah}{Ts Ns:List zad}{J J':zav}(h:zih r Ts Ns J)(s:zkt J J'):zih r Ts Ns J':=by
 rw[s];exact⟨h.head,h.vars,h.holds,h.backs,h.last,h.bars,h.sides,h.vlen,h.flen⟩
theorem JAt.same{r:zah}{Ts Ns:List zad}{W:Nat}{J J':zav}{d:Nat}(h:JAt r Ts Ns W J d)(s:zkt J J'):JAt r Ts Ns W J' d:=by
 refine⟨h.stat.same s,?_,?_,?_,?_⟩
 ·rw[s];exact h.nodes
 ·rw[s];exact h.nob
 ·rw[s];exact h.from
 ·rw[s];exact h.small
theorem JAt.back{r:zah}{Ts Ns:List zad}{W:Nat}{J:zav}{d b:Nat}(h:JAt r Ts Ns W J d)(hb:b<=d):JAt r Ts Ns W J b:=by
 refine⟨h.stat,fun i l s hl hs=>?_,fun x hx hk=>h.nob x hx (by omega),fun i hi=>h.from i (by omega),fun i hi=>h.small i (by omega)⟩
 obtain⟨n1,n2,n3⟩:=h.nodes i l s hl hs
 have hle:(zcg l b).length<=(zcg l d).length:=(zr9 l hb).length_le
 refine⟨n1,fun k hk h3=>?_,?_⟩
 ·rw[zi7 l J.values hb,List.take_take,Nat.min_eq_left hk]
  exact n2 k (by omega) h3
 ·rw[zi7 l J.values hb]
  have hsp:zb6 l J.values d=(zb6 l J.values d).take (zcg l b).length++(zb6 l J.values d).drop (zcg l b).length:=(List.take_append_drop _ _).symm
  rw[hsp,zft] at n3
  cases hg:goT s.rows 0 ((zb6 l J.values d).take (zcg l b).length) with
  |none=>rw[hg] at n3;cases n3
  |some x=>rfl
theorem zih.side{r:zah}{Ts Ns:List zad}{J:zav}(h:zih r Ts Ns J){i:Nat}{s:zej}(hs:J.sides[i]?=some s):Ts[i]?=some s.rows:=by
 rw[← h.sides];simp[hs]
theorem zih.some{r:zah}{Ts Ns:List zad}{W:Nat}{J:zav}(h:zih r Ts Ns J)(hf:zdx r Ts W){i:Nat}{l:zak}(hl:r.plain[i]?=some l):∃ s,J.sides[i]?=some s:=by
 have h1:J.sides.length=r.plain.length:=by rw[← hf.len,← h.sides];simp
 have h2:i < r.plain.length:=(List.getElem?_eq_some_iff.1 hl).1
 exact⟨_,List.getElem?_eq_getElem (by omega)⟩
theorem zih.holdsAt{r:zah}{Ts Ns:List zad}{J:zav}(h:zih r Ts Ns J){d:Nat}(hd:d < 5):J.holds.getD d []=zb2 r d:=by
 rw[h.holds];simp[List.getD,hd]
theorem JAt.hold{r:zah}{Ts Ns:List zad}{W:Nat}{J:zav}{d:Nat}(h:JAt r Ts Ns W J d)(hr:zf2 r)(hf:zdx r Ts W){x:Nat × Nat}(hx:x∈zb2 r d) :
  ∃ l s,r.plain[x.1]?=some l/\J.sides[x.1]?=some s/\zde l d=true/\x.2=(zcg l d).length/\x.2 < 3/\zcq J x=true/\zd8 s.rows/\s.rows.width<=W/\∀ v,goT s.rows 0 (zb6 l J.values d++[v])=zh3 J x v:=by
 obtain⟨i,lv⟩:=x
 obtain⟨l,h1,h2,h3⟩:=ztk hx
 obtain⟨s,hs⟩:=h.stat.some hf h1
 have hlv:(zcg l (d+1)).length=lv+1:=by rw[zeo,if_pos h2,h3];simp
 have h4:lv < 3:=by
  have:=zkp l (d+1)
  have:=hr.terms l (List.mem_of_getElem? h1)
  omega
 have hil:i < J.sides.length:=(List.getElem?_eq_some_iff.1 hs).1
 obtain⟨t1,t2,t3⟩:=hf.ok i l s.rows h1 (h.stat.side hs)
 refine⟨l,s,h1,hs,h2,h3,h4,by simp[zcq,hil,h4],t1,t3,fun v=>?_⟩
 obtain⟨n1,n2,n3⟩:=h.nodes i l s h1 hs
 have:=n2 lv (by omega) h4
 rw[h3,show(zb6 l J.values d).take (zcg l d).length=zb6 l J.values d by rw[← zg1 l J.values d];exact List.take_length] at this
 rw[zft,this]
 unfold zh3
 simp only[List.getD,hs,Option.getD_some,Option.bind_some,goT,h3]
 cases zax s.rows _ v <;> rfl
theorem zrn{r:zah}{Ts Ns:List zad}{J:zav}(h:zih r Ts Ns J)(k:Nat):zb3 J k=true↔∃ x∈r.nots.zip Ns,zdn x.1=k/\(zdt x.2 (zcs x.1 J.values)).isSome=true:=by
 unfold zb3
 rw[h.bars,List.any_map,List.any_eq_true]
 simp
theorem JAt.take{r:zah}{Ts Ns:List zad}{W:Nat}{J:zav}{d v:Nat}(h:JAt r Ts Ns W J d)(hr:zf2 r)(hf:zdx r Ts W)(hd:d < r.vars)(hv:∀ x∈zb2 r d,(zh3 J x v).isSome=true)(hW:v < W) :
  (zf0 J d v).values=J.values.set d v/\(∀ i,i < d->(zf0 J d v).from.getD i 0=J.from.getD i 0)/\(zf0 J d v).from.getD d 0=v+1/\(d+1 < 5->(zf0 J d v).from.getD (d+1) 0=0)/\JAt r Ts Ns W (zf0 J d v) d/\(zb3 (zf0 J d v) (d+1)=false->JAt r Ts Ns W (zf0 J d v) (d+1)):=by
 have hv5:=hr.vars
 have hd5:d < 5:=by omega
 have hvl:=h.stat.vlen
 have hfl:=h.stat.flen
 unfold zf0
 rw[if_neg (by omega),h.stat.holdsAt hd5]
 obtain⟨ss,e1,e2,e3⟩:=zp2 v (zb2 r d) { J with values:=J.values.set d v,«from»:=(if d+1 < 5 then(J.from.set d (v+1)).set (d+1) 0 else J.from.set d (v+1)) } (zoa r d) (fun x hx=>by
  obtain⟨_,_,_,_,_,_,_,q,_⟩:=h.hold hr hf hx
  unfold zcq at q ⊢
  exact q)
 rw[e1]
 simp only at e2 e3 ⊢
 have hfr:∀ i,i < d->(if d+1 < 5 then(J.from.set d (v+1)).set (d+1) 0 else J.from.set d (v+1)).getD i 0=J.from.getD i 0:=by
  intro i hi
  split
  ·rw[zam,if_neg (by omega),zam,if_neg (by omega)]
  ·rw[zam,if_neg (by omega)]
 have hfd:(if d+1 < 5 then(J.from.set d (v+1)).set (d+1) 0 else J.from.set d (v+1)).getD d 0=v+1:=by
  split
  ·rw[zam,if_neg (by omega),zam,if_pos ⟨rfl,by omega⟩]
  ·rw[zam,if_pos ⟨rfl,by omega⟩]
 have hrows:ss.map (·.rows)=Ts:=by
  rw[← h.stat.sides]
  refine List.ext_getElem? fun i=>?_
  simp only[List.getElem?_map]
  cases hs:J.sides[i]? with
  |none =>
   have:J.sides.length<=i:=List.getElem?_eq_none_iff.1 hs
   rw[List.getElem?_eq_none (by omega)]
  |some s =>
   rw[e3 i s hs]
   simp only[Option.map_some,Option.some.injEq]
   cases (zb2 r d).lookup i with
   |none=>rfl
   |some lv=>simp only[setDown];split <;> rfl
 have hstat:zih r Ts Ns { J with sides:=ss,values:=J.values.set d v,«from»:=(if d+1 < 5 then(J.from.set d (v+1)).set (d+1) 0 else J.from.set d (v+1)) }:=⟨h.stat.head,h.stat.vars,h.stat.holds,h.stat.backs,h.stat.last,h.stat.bars,hrows,by simpa using hvl,by show(if d+1 < 5 then(J.from.set d (v+1)).set (d+1) 0 else J.from.set d (v+1)).length=5;split <;> simpa using hfl⟩
 have hlow:∀ l:zak,zb6 l (J.values.set d v) d=zb6 l J.values d:=fun l=>zia l fun p hp _=>by rw[zam,if_neg (by omega)]
 have hnodes:∀(i:Nat) (l:zak) (s s':zej),r.plain[i]?=some l->J.sides[i]?=some s->ss[i]?=some s'->s'.nodes.length=3/\(∀ k,k<=(zcg l d).length->k < 3->goT s'.rows 0 ((zb6 l J.values d).take k)=some (s'.nodes.getD k 0))/\(goT s'.rows 0 (zb6 l J.values d)).isSome=true/\(∀ k,k<=(zcg l (d+1)).length->k < 3->goT s'.rows 0 ((zb6 l (J.values.set d v) (d+1)).take k)=some (s'.nodes.getD k 0))/\(goT s'.rows 0 (zb6 l (J.values.set d v) (d+1))).isSome=true:=by
  intro i l s s' hl hs hs'
  obtain⟨n1,n2,n3⟩:=h.nodes i l s hl hs
  rw[e3 i s hs] at hs'
  by_cases hh:zde l d=true
  ·have hm:=holds_of hl hh
   rw[zzx (zoa r d) hm] at hs'
   simp only[Option.some.injEq] at hs'
   obtain⟨l',s0,q1,q2,_,q4,q5,_,_,_,q9⟩:=h.hold hr hf hm
   simp only at q1 q2 q5
   rw[hl] at q1;rw[hs] at q2
   simp only[Option.some.injEq] at q1 q2
   subst q1;subst q2
   have hvv:=hv _ hm
   obtain⟨bb,hbb⟩:=Option.isSome_iff_exists.1 hvv
   have hgo:=q9 v
   rw[hbb] at hgo
   have hp:zb6 l (J.values.set d v) (d+1)=zb6 l J.values d++[v]:=by rw[zqr l _ _ _ (by omega),if_pos hh]
   have hrow':s'.rows=s.rows:=by rw[← hs'];unfold setDown;split <;> rfl
   have hlen:(zb6 l J.values d).length=(zcg l d).length:=zg1 _ _ _
   have hnd:∀ k,k<=(zcg l d).length->s'.nodes.getD k 0=s.nodes.getD k 0:=by
    intro k hk
    rw[← hs'];unfold setDown;split
    ·rfl
    ·rw[zam,if_neg (by omega)]
   have hdn:zax s.rows (s.nodes.getD (zcg l d).length 0) v=some bb:=by
    unfold zh3 at hbb
    simpa [List.getD,hs] using hbb
   refine⟨by rw[← hs'];unfold setDown;split <;> simp[n1],fun k hk h3=>by rw[hrow',hnd k hk];exact n2 k hk h3,by rw[hrow'];exact n3,fun k hk h3=>?_,by rw[hrow',hp,hgo];rfl⟩
   rw[hrow',hp]
   rw[zeo,if_pos hh,List.length_append,List.length_singleton] at hk
   by_cases hk2:k<=(zcg l d).length
   ·rw[List.take_append_of_le_length (by omega),hnd k hk2]
    exact n2 k hk2 h3
   ·have:k=(zcg l d).length+1:=by omega
    subst this
    rw[List.take_of_length_le (by simp[hlen]),hgo,← hs']
    unfold setDown
    rw[if_neg (by omega)]
    simp only
    rw[zam,if_pos ⟨rfl,by omega⟩,hdn]
    rfl
  ·have hno:∀ lv,(i,lv)∉zb2 r d:=fun lv hm=>by
    obtain⟨l',q1,q2,_⟩:=ztk hm
    rw[hl] at q1
    simp only[Option.some.injEq] at q1
    subst q1
    exact hh q2
   rw[zv9 hno] at hs'
   simp only[Option.some.injEq] at hs'
   subst hs'
   have hp:zb6 l (J.values.set d v) (d+1)=zb6 l J.values d:=by rw[zqr l _ _ _ (by omega),if_neg hh]
   have hvv:zcg l (d+1)=zcg l d:=by rw[zeo,if_neg hh]
   exact⟨n1,n2,n3,by rw[hp,hvv];exact n2,by rw[hp];exact n3⟩
 have hside:∀(i:Nat) (l:zak) (s':zej),r.plain[i]?=some l->ss[i]?=some s'->∃ s,J.sides[i]?=some s:=fun i l s' hl _=>h.stat.some hf hl
 have hrl:∀ x∈r.nots.zip Ns,zdn x.1<=d->zcs x.1 (J.values.set d v)=zcs x.1 J.values:=fun x _ hk=>zfy x.1 fun p hp=>by
  have:=zla x.1 hp
  rw[zam,if_neg (by omega)]
 refine⟨trivial,hfr,hfd,fun h5=>?_,⟨hstat,fun i l s' hl hs'=>?_,fun x hx hk=>?_,fun i hi=>?_,fun i hi=>?_⟩,fun hb=>⟨hstat,fun i l s' hl hs'=>?_,fun x hx hk=>?_,fun i hi=>?_,fun i hi=>?_⟩⟩
 ·rw[if_pos h5,zam,if_pos ⟨rfl,by simp;omega⟩]
 ·obtain⟨s,hs⟩:=hside i l s' hl hs'
  obtain⟨a1,a2,a3,_,_⟩:=hnodes i l s s' hl hs hs'
  exact⟨a1,by rw[hlow];exact a2,by rw[hlow];exact a3⟩
 ·show zdt x.2 (zcs x.1 (J.values.set d v))=none
  rw[hrl x hx hk];exact h.nob x hx hk
 ·show(if d+1 < 5 then _ else _:List Nat).getD i 0=(J.values.set d v).getD i 0+1
  rw[hfr i hi,zam,if_neg (by omega)];exact h.from i hi
 ·show(J.values.set d v).getD i 0 < W
  rw[zam,if_neg (by omega)];exact h.small i hi
 ·obtain⟨s,hs⟩:=hside i l s' hl hs'
  obtain⟨a1,_,_,a4,a5⟩:=hnodes i l s s' hl hs hs'
  exact⟨a1,a4,a5⟩
 ·show zdt x.2 (zcs x.1 (J.values.set d v))=none
  by_cases hkd:zdn x.1<=d
  ·rw[hrl x hx hkd];exact h.nob x hx hkd
  ·cases hm:zdt x.2 (zcs x.1 (J.values.set d v)) with
   |none=>rfl
   |some m =>
    have:=(zrn hstat (d+1)).2 ⟨x,hx,by omega,by show(zdt x.2 (zcs x.1 (J.values.set d v))).isSome=true;rw[hm];rfl⟩
    rw[hb] at this;cases this
 ·show(if d+1 < 5 then _ else _:List Nat).getD i 0=(J.values.set d v).getD i 0+1
  by_cases hi2:i=d
  ·subst hi2
   rw[hfd,zam,if_pos ⟨rfl,by omega⟩]
  ·rw[hfr i (by omega),zam,if_neg (by omega)];exact h.from i (by omega)
 ·show(J.values.set d v).getD i 0 < W
  by_cases hi2:i=d
  ·subst hi2
   rw[zam,if_pos ⟨rfl,by omega⟩];exact hW
  ·rw[zam,if_neg (by omega)];exact h.small i (by omega)
end Go.Proofs.YteampbddflhngabGreat
