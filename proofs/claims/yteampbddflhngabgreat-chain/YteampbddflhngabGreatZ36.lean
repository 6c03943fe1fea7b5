import Derived.Test.YteampbddflhngabGreatZ35

namespace Go.Proofs.YteampbddflhngabGreat
def zcg(l:zaj)(d:Nat):List Nat:=(List.range d).filter (zdd l)
def zb5(l:zaj)(vals:List Nat)(d:Nat):zao:=(zcg l d).map fun p=>vals.getD p 0
theorem zej(l:zaj)(d:Nat):zcg l (d+1)=if zdd l d then zcg l d++[d] else zcg l d:=by
 unfold zcg
 rw[List.range_succ,List.filter_append]
 by_cases h:zdd l d <;> simp[h]
theorem zhu(l:zaj)(d p:Nat):p∈zcg l d↔p < d/\zdd l p=true:=by simp[zcg]
theorem zrl(l:zaj){a b:Nat}(h:a<=b):zcg l a <+: zcg l b:=by
 induction h with
 |refl=>exact List.prefix_rfl
 |step h ih =>
  rw[zej]
  split
  ·exact ih.trans (List.prefix_append _ _)
  ·exact ih
theorem znv(l:zaj)(p:Nat):zbo l p=if zdd l p then some (zcg l p).length else none:=by
 unfold zbo zcg
 rw[List.countP_eq_length_filter]
theorem zd8(l:zaj):za9 l=(zcg l 5).length:=by
 unfold za9 zcg
 rw[List.countP_eq_length_filter]
theorem zgv(l:zaj)(vals:List Nat)(d:Nat):(zb5 l vals d).length=(zcg l d).length:=by simp[zb5]
theorem zh4(l:zaj){x y:List Nat}{d:Nat}(h:∀ p,p < d->zdd l p=true->x.getD p 0=y.getD p 0):zb5 l x d=zb5 l y d:=by
 unfold zb5
 refine List.map_congr_left fun p hp=>?_
 have:=(zhu l d p).1 hp
 exact h p this.1 this.2
theorem ziz(l:zaj)(vals:List Nat){a b:Nat}(h:a<=b):zb5 l vals a=(zb5 l vals b).take (zcg l a).length:=by
 obtain⟨t,ht⟩:=zrl l h
 unfold zb5
 rw[← ht]
 simp
theorem zp6(l:zaj)(vals:List Nat)(d v:Nat)(hd:d < vals.length):zb5 l (vals.set d v) (d+1)=if zdd l d then zb5 l vals d++[v] else zb5 l vals d:=by
 have h0:(zcg l d).map (fun p=>(vals.set d v).getD p 0)=(zcg l d).map fun p=>vals.getD p 0:=by
  refine List.map_congr_left fun p hp=>?_
  have:=(zhu l d p).1 hp
  rw[zal,if_neg (by omega)]
 unfold zb5
 rw[zej]
 split
 ·rw[List.map_append,h0]
  simp[hd]
 ·exact h0
theorem zpz:∀ {l1 l2:List Nat},l1.Nodup->(∀ x∈l1,x∈l2)->l1.length<=l2.length
 |[],l2,_,_=>by simp
 |a::l1,l2,hn,hs=>by
  have ha:=hs a (by simp)
  have h1:=zpz (l1:=l1) (l2:=l2.erase a) (List.nodup_cons.1 hn).2 (fun x hx=>by
   have hne:x≠a:=by rintro rfl;exact(List.nodup_cons.1 hn).1 hx
   exact(List.mem_erase_of_ne hne).2 (hs x (by simp[hx])))
  rw[List.length_erase_of_mem ha] at h1
  have:=List.length_pos_of_mem ha
  simp;omega
theorem zfc(l:zaj)(p:Nat):zdd l p=true↔∃ t∈l.terms,t.var=true/\t.num=p:=by
 unfold zdd
 rw[List.any_eq_true]
 constructor
 ·rintro⟨t,h1,h2⟩
  simp only[Bool.and_eq_true,beq_iff_eq] at h2
  exact⟨t,h1,h2.1,h2.2⟩
 ·rintro⟨t,h1,h2,h3⟩
  exact⟨t,h1,by simp[h2,h3]⟩
theorem zkf(l:zaj)(d:Nat):(zcg l d).length<=l.terms.length:=by
 have:=zpz (l1:=zcg l d) (l2:=l.terms.map (·.num)) (List.nodup_range.filter _) (fun p hp=>by
  obtain⟨t,h1,_,h3⟩:=(zfc l p).1 ((zhu l d p).1 hp).2
  exact List.mem_map.2 ⟨t,h1,h3⟩)
 simpa using this
theorem zk0(known:Int):∀(ts:List zbl) (k:Int),k<=ts.foldl (fun k t=>if t.var && decide ((t.num:Int) < known) && decide ((t.num:Int) > k) then(t.num:Int) else k) k/\(∀ t∈ts,t.var=true->(t.num:Int) < known->(t.num:Int)<=ts.foldl (fun k t=>if t.var && decide ((t.num:Int) < known) && decide ((t.num:Int) > k) then(t.num:Int) else k) k)/\(k < known->ts.foldl (fun k t=>if t.var && decide ((t.num:Int) < known) && decide ((t.num:Int) > k) then(t.num:Int) else k) k < known)
 |[],k=>⟨Int.le_refl _,fun t h=>(by cases h),fun h=>h⟩
 |t::ts,k=>by
  simp only[List.foldl_cons]
  by_cases hc:(t.var && decide ((t.num:Int) < known) && decide ((t.num:Int) > k))=true
  ·rw[if_pos hc]
   simp only[Bool.and_eq_true,decide_eq_true_eq] at hc
   obtain⟨i1,i2,i3⟩:=zk0 known ts (t.num:Int)
   refine⟨by omega,fun u hu hv hk=>?_,fun _=>i3 (by omega)⟩
   rcases List.mem_cons.1 hu with rfl|hu
   ·exact i1
   ·exact i2 u hu hv hk
  ·rw[if_neg hc]
   obtain⟨i1,i2,i3⟩:=zk0 known ts k
   refine⟨i1,fun u hu hv hk=>?_,i3⟩
   rcases List.mem_cons.1 hu with rfl|hu
   ·have:(u.num:Int)<=k:=by
     simp only[hv,hk,Bool.true_and,decide_true,decide_eq_true_eq] at hc
     omega
    omega
   ·exact i2 u hu hv hk
theorem zq3(l:zaj){known:Int}{p:Nat}(hp:zdd l p=true)(hk:(p:Int) < known):(p:Int)<=zic l known:=by
 obtain⟨t,h1,h2,h3⟩:=(zfc l p).1 hp
 have:=(zk0 known l.terms (-1)).2.1 t h1 h2 (by omega)
 unfold zic
 omega
theorem zw4(l:zaj){known:Int}(hk:0<=known):zic l known < known:=(zk0 known l.terms (-1)).2.2 (by omega)
theorem z1r(l:zaj)(known:Int):-1<=zic l known:=(zk0 known l.terms (-1)).1
theorem zkx:∀(ts:List zbl) (k:Nat),k<=ts.foldl (fun k t=>if t.var && decide (t.num ≥ k) then t.num+1 else k) k/\(∀ t∈ts,t.var=true->t.num < ts.foldl (fun k t=>if t.var && decide (t.num ≥ k) then t.num+1 else k) k)/\∀ b,k<=b->(∀ t∈ts,t.var=true->t.num < b)->ts.foldl (fun k t=>if t.var && decide (t.num ≥ k) then t.num+1 else k) k<=b
 |[],k=>⟨Nat.le_refl _,fun t h=>(by cases h),fun b h _=>h⟩
 |t::ts,k=>by
  simp only[List.foldl_cons]
  by_cases hc:(t.var && decide (t.num ≥ k))=true
  ·rw[if_pos hc]
   simp only[Bool.and_eq_true,decide_eq_true_eq] at hc
   obtain⟨i1,i2,i3⟩:=zkx ts (t.num+1)
   refine⟨by omega,fun u hu hv=>?_,fun b hb hq=>i3 b (by have:=hq t (by simp) hc.1;omega) fun u hu=>hq u (by simp[hu])⟩
   rcases List.mem_cons.1 hu with rfl|hu
   ·omega
   ·exact i2 u hu hv
  ·rw[if_neg hc]
   obtain⟨i1,i2,i3⟩:=zkx ts k
   refine⟨i1,fun u hu hv=>?_,fun b hb hq=>i3 b hb fun u hu=>hq u (by simp[hu])⟩
   rcases List.mem_cons.1 hu with rfl|hu
   ·have:u.num < k:=by simp only[hv,Bool.true_and,decide_eq_true_eq] at hc;omega
    omega
   ·exact i2 u hu hv
theorem zky(l:zaj){p:Nat}(hp:zdd l p=true):p < zdm l:=by
 obtain⟨t,h1,h2,h3⟩:=(zfc l p).1 hp
 have:=(zkx l.terms 0).2.1 t h1 h2
 unfold zdm
 omega
theorem zs3(l:zaj){k:Nat}(h:∀ p,zdd l p=true->p < k):zdm l<=k :=
 (zkx l.terms 0).2.2 k (by omega) fun t ht hv=>h t.num ((zfc l t.num).2 ⟨t,ht,hv,rfl⟩)
theorem z6f(l:zaj){known:Int}(hk:0<=known):zht l known < known:=by
 unfold zht;split
 ·omega
 ·exact zw4 l hk
theorem zqy(known:Int):∀(ls:List zaj) (b:Int),b<=ls.foldl (zba known) b/\(∀ l∈ls,zht l known<=ls.foldl (zba known) b)/\(0<=known->b < known->ls.foldl (zba known) b < known)
 |[],b=>⟨Int.le_refl _,fun l h=>(by cases h),fun _ h=>h⟩
 |l::ls,b=>by
  simp only[List.foldl_cons]
  obtain⟨i1,i2,i3⟩:=zqy known ls (zba known b l)
  have hs:b<=zba known b l/\zht l known<=zba known b l:=by unfold zba;split <;> omega
  refine⟨by omega,fun u hu=>?_,fun h0 hb=>i3 h0 ?_⟩
  ·rcases List.mem_cons.1 hu with rfl|hu
   ·omega
   ·exact i2 u hu
  ·have:=z6f l h0
   unfold zba;split <;> omega
theorem zlo(r:zah){known:Int}(hk:0<=known):zd4 r known < known/\-1<=zd4 r known/\zic r.head known<=zd4 r known/\(∀ l∈r.plain,zht l known<=zd4 r known)/\∀ l∈r.nots,zht l known<=zd4 r known:=by
 unfold zd4
 obtain⟨a1,a2,a3⟩:=zqy known r.plain (zic r.head known)
 obtain⟨b1,b2,b3⟩:=zqy known r.nots (r.plain.foldl (zba known) (zic r.head known))
 have:=z1r r.head known
 exact⟨b3 hk (a3 hk (zw4 r.head hk)),by omega,by omega,fun l hl=>by have:=a2 l hl;omega,b2⟩
theorem zxs{l:zaj}{known:Nat}{b:Int}(h:zht l known<=b):(∀ p,zdd l p=true->p < known)∨∀ p,zdd l p=true->p < known->(p:Int)<=b:=by
 unfold zht at h
 by_cases hc:(zdm l:Int)<=known
 ·exact Or.inl fun p hp=>by have:=zky l hp;omega
 ·rw[if_neg hc] at h
  exact Or.inr fun p hp hk=>by have:=zq3 l (known:=(known:Int)) hp (by omega);omega
structure zfw (r:zah):Prop where
 vars:r.vars<=5
 terms:∀ l∈r.plain,l.terms.length<=3
 plain:∀ l∈r.plain,∀ p,zdd l p=true->p < r.vars
 nots:∀ l∈r.nots,∀ p,zdd l p=true->p < r.vars
 head:∀ p,zdd r.head p=true->p < r.vars
 safe:∀ p,p < r.vars->∃ l∈r.plain,zdd l p=true
structure zdu (r:zah) (Ts:List zad) (W:Nat):Prop where
 len:Ts.length=r.plain.length
 ok:∀(i:Nat) (l:zaj) (T:zad),r.plain[i]?=some l->Ts[i]?=some T->zd5 T/\T.depth=zbu (za9 l)/\T.width<=W
structure zia (r:zah) (Ts Ns:List zad) (J:zau):Prop where
 head:J.head=r.head
 vars:J.vars=r.vars
 holds:J.holds=(List.range 5).map (zb0 r)
 backs:J.backs=(List.range 5).map fun p=>zd4 r (p:Nat)
 last:J.last=zd4 r r.vars
 bars:J.bars=(r.nots.zip Ns).map fun x=>⟨x.1,zdm x.1,x.2⟩
 sides:J.sides.map (·.rows)=Ts
 vlen:J.values.length=5
 flen:J.from.length=5
theorem zft(l:zaj){x y:List Nat}(h:∀ p,zdd l p=true->x.getD p 0=y.getD p 0):zcr l x=zcr l y:=by
 have hc:∀ i,rowCell l x i=rowCell l y i:=by
  intro i
  unfold rowCell
  split
  ·rename_i hi
   unfold atT
   rw[show l.terms.getD i ⟨false,0,0⟩=l.terms[i] by simp[List.getD,hi]]
   split
   ·rename_i hv
    simp only[Bool.and_eq_true,decide_eq_true_eq] at hv
    exact h _ ((zfc l _).2 ⟨_,List.getElem_mem hi,hv.1,rfl⟩)
   ·rfl
  ·rfl
 unfold zcr
 rw[hc,hc,hc]
def z8i(T:zad)(l:zaj)(y:List Nat):Prop:=(za9 l=0->T.count≠0)/\(za9 l≠0->(zjq T (zb5 l y 5)).isSome=true)
def zrp(r:zah)(Ts Ns:List zad)(y:List Nat):Prop:=(∀(i:Nat) (l:zaj) (T:zad),r.plain[i]?=some l->Ts[i]?=some T->z8i T l y)/\∀ x∈r.nots.zip Ns,zdq x.2 (zcr x.1 y)=none
theorem zzw{r:zah}{l:zaj}(hl:∀ p,zdd l p=true->p < r.vars){d:Nat}(hd:r.vars<=d):zcg l d=zcg l r.vars:=by
 induction hd with
 |refl=>rfl
 |@step m h ih =>
  rw[zej,if_neg (fun q=>by have:=hl _ q;have:r.vars<=m:=h;omega),ih]
theorem zze{r:zah}(hv:r.vars<=5){l:zaj}(hl:∀ p,zdd l p=true->p < r.vars)(y:List Nat):zb5 l y 5=zb5 l y r.vars:=by
 unfold zb5
 rw[zzw hl hv]
def z6r(r:zah)(J:zau)(d:Nat):Prop:=∀(i:Nat) (l:zaj) (s:zee),r.plain[i]?=some l->J.sides[i]?=some s->s.nodes.length=3/\(∀ k,k<=(zcg l d).length->k < 3->goT s.rows 0 ((zb5 l J.values d).take k)=some (s.nodes.getD k 0))/\(goT s.rows 0 (zb5 l J.values d)).isSome=true
def z8o(r:zah)(Ns:List zad)(vals:List Nat)(d:Nat):Prop:=∀ x∈r.nots.zip Ns,zdm x.1<=d->zdq x.2 (zcr x.1 vals)=none
theorem zss{r:zah}{d i lv:Nat}(h:(i,lv)∈zb0 r d):∃ l,r.plain[i]?=some l/\zdd l d=true/\lv=(zcg l d).length:=by
 unfold zb0 at h
 simp only[List.mem_filterMap,Option.map_eq_some_iff,Prod.mk.injEq] at h
 obtain⟨⟨l,j⟩,h1,lv',h2,h3,h4⟩:=h
 rw[znv] at h2
 split at h2
 ·rename_i hh
  simp only[Option.some.injEq] at h2
  have:=List.mem_zipIdx_iff_getElem?.1 h1
  simp only at this h3 hh h2
  subst h3
  exact⟨l,this,hh,by omega⟩
 ·cases h2
theorem holds_of{r:zah}{d i:Nat}{l:zaj}(h:r.plain[i]?=some l)(hh:zdd l d=true):(i,(zcg l d).length)∈zb0 r d:=by
 unfold zb0
 simp only[List.mem_filterMap,Option.map_eq_some_iff,Prod.mk.injEq]
 refine⟨(l,i),List.mem_zipIdx_iff_getElem?.2 h,(zcg l d).length,?_,rfl,rfl⟩
 rw[znv,if_pos hh]
theorem znr(r:zah)(d:Nat):((zb0 r d).map (·.1)).Nodup:=by
 unfold zb0
 have key:∀(ls:List zaj) (n:Nat),(((ls.zipIdx n).filterMap fun x=>(zbo x.1 d).map fun lv=>(x.2,lv)).map (·.1)).Nodup/\∀ i∈((ls.zipIdx n).filterMap fun x=>(zbo x.1 d).map fun lv=>(x.2,lv)).map (·.1),n<=i:=by
  intro ls
  induction ls with
  |nil=>intro n;simp
  |cons l ls ih =>
   intro n
   obtain⟨i1,i2⟩:=ih (n+1)
   rw[List.zipIdx_cons,List.filterMap_cons]
   cases hl:(zbo l d).map fun lv=>(n,lv) with
   |none=>exact⟨i1,fun i hi=>by have:=i2 i hi;omega⟩
   |some x =>
    have hx:x.1=n:=by
     simp only[Option.map_eq_some_iff] at hl
     obtain⟨a,_,rfl⟩:=hl
     rfl
    simp only[List.map_cons,List.nodup_cons,List.mem_cons]
    refine⟨⟨fun hm=>by have:=i2 _ hm;omega,i1⟩,?_⟩
    rintro i (rfl|hi)
    ·omega
    ·have:=i2 i hi;omega
 exact(key r.plain 0).1
def setDown(v lv:Nat)(s:zee):zee:=if lv+1 ≥ 3 then s else{ s with nodes:=s.nodes.set (lv+1) ((zax s.rows (s.nodes.getD lv 0) v).getD 0) }
theorem zyh{J:zau}{v:Nat}{h:Nat × Nat}(hs:zcp J h=true):zef v J h={ J with sides:=J.sides.set h.1 (setDown v h.2 (J.sides.getD h.1 zee.zero)) }:=by
 unfold zef setDown
 by_cases h3:h.2+1 ≥ 3
 ·rw[if_pos (Or.inr h3),if_pos h3]
  have hl:h.1 < J.sides.length:=by simp only[zcp,Bool.and_eq_true,decide_eq_true_eq] at hs;exact hs.1
  have:J.sides.set h.1 (J.sides.getD h.1 zee.zero)=J.sides:=by
   rw[show J.sides.getD h.1 zee.zero=J.sides[h.1] by simp[List.getD,hl]]
   exact List.set_getElem_self _
  rw[this]
 ·rw[if_neg (by rintro(q|q);rw[hs] at q;cases q;exact h3 q),if_neg h3]
theorem zph(v:Nat):∀(hs:List (Nat × Nat)) (J:zau),(hs.map (·.1)).Nodup->(∀ h∈hs,zcp J h=true)->∃ ss,hs.foldl (zef v) J={ J with sides:=ss }/\ss.length=J.sides.length/\∀ i s,J.sides[i]?=some s->ss[i]?=some (match hs.lookup i with|none=>s|some lv=>setDown v lv s)
 |[],J,_,_=>⟨J.sides,rfl,rfl,fun i s h=>by simpa using h⟩
 |(j,lv)::hs,J,hn,hst=>by
  simp only[List.foldl_cons]
  have h0:=hst (j,lv) (by simp)
  rw[zyh h0]
  simp only
  have hjl:j < J.sides.length:=by simp only[zcp,Bool.and_eq_true,decide_eq_true_eq] at h0;exact h0.1
  simp only[List.map_cons,List.nodup_cons] at hn
  obtain⟨ss,e1,e2,e3⟩:=zph v hs { J with sides:=J.sides.set j (setDown v lv (J.sides.getD j zee.zero)) } hn.2 (fun h hh=>by
   have:=hst h (by simp[hh])
   unfold zcp at this ⊢
   simpa using this)
  refine⟨ss,e1,by simpa using e2,fun i s hi=>?_⟩
  by_cases hij:i=j
  ·subst hij
   have hg:J.sides.getD i zee.zero=s:=by simp[List.getD,hi]
   have:=e3 i (setDown v lv s) (by rw[hg];simp[hjl])
   rw[this]
   have hnone:hs.lookup i=none:=by
    rw[List.lookup_eq_none_iff]
    intro x hx
    have:x.1≠i:=by
     rintro rfl
     exact hn.1 (List.mem_map.2 ⟨x,hx,rfl⟩)
    simpa using fun q=>this q.symm
   rw[hnone]
   simp[List.lookup]
  ·have:=e3 i s (by simp only[List.getElem?_set,Ne.symm hij,if_false];exact hi)
   rw[this]
   have hb:(i == j)=false:=by simp[hij]
   simp[List.lookup,hb]
theorem zy3{hs:List (Nat × Nat)}{i lv:Nat}(hn:(hs.map (·.1)).Nodup)(hm:(i,lv)∈hs):hs.lookup i=some lv:=by
 induction hs with
 |nil=>cases hm
 |cons a hs ih =>
  obtain⟨j,m⟩:=a
  simp only[List.map_cons,List.nodup_cons] at hn
  rcases List.mem_cons.1 hm with e|hm2
  ·simp only[Prod.mk.injEq] at e
   obtain⟨rfl,rfl⟩:=e
   simp[List.lookup]
  ·have:i≠j:=by
    rintro rfl
    exact hn.1 (List.mem_map.2 ⟨(i,lv),hm2,rfl⟩)
   have hb:(i == j)=false:=by simp[this]
   simp only[List.lookup,hb]
   exact ih hn.2 hm2
theorem zvk{hs:List (Nat × Nat)}{i:Nat}(h:∀ lv,(i,lv)∉hs):hs.lookup i=none:=by
 rw[List.lookup_eq_none_iff]
 rintro⟨j,m⟩ hx
 have:i≠j:=by rintro rfl;exact h m hx
 simpa using this
structure JAt (r:zah) (Ts Ns:List zad) (W:Nat) (J:zau) (d:Nat):Prop where
 stat:zia r Ts Ns J
 nodes:z6r r J d
 nob:z8o r Ns J.values d
 «from» : ∀ i,i < d->J.from.getD i 0=J.values.getD i 0+1
 small:∀ i,i < d->J.values.getD i 0 < W
theorem zia.same{r:zah}{Ts Ns:List zad}{J J':zau}(h:zia r Ts Ns J)(s:zki J J'):zia r Ts Ns J':=by
 rw[s];exact⟨h.head,h.vars,h.holds,h.backs,h.last,h.bars,h.sides,h.vlen,h.flen⟩
theorem JAt.same{r:zah}{Ts Ns:List zad}{W:Nat}{J J':zau}{d:Nat}(h:JAt r Ts Ns W J d)(s:zki J J'):JAt r Ts Ns W J' d:=by
 refine⟨h.stat.same s,?_,?_,?_,?_⟩
 ·rw[s];exact h.nodes
 ·rw[s];exact h.nob
 ·rw[s];exact h.from
 ·rw[s];exact h.small
theorem JAt.back{r:zah}{Ts Ns:List zad}{W:Nat}{J:zau}{d b:Nat}(h:JAt r Ts Ns W J d)(hb:b<=d):JAt r Ts Ns W J b:=by
 refine⟨h.stat,fun i l s hl hs=>?_,fun x hx hk=>h.nob x hx (by omega),fun i hi=>h.from i (by omega),fun i hi=>h.small i (by omega)⟩
 obtain⟨n1,n2,n3⟩:=h.nodes i l s hl hs
 have hle:(zcg l b).length<=(zcg l d).length:=(zrl l hb).length_le
 refine⟨n1,fun k hk h3=>?_,?_⟩
 ·rw[ziz l J.values hb,List.take_take,Nat.min_eq_left hk]
  exact n2 k (by omega) h3
 ·rw[ziz l J.values hb]
  have hsp:zb5 l J.values d=(zb5 l J.values d).take (zcg l b).length++(zb5 l J.values d).drop (zcg l b).length:=(List.take_append_drop _ _).symm
  rw[hsp,zfo] at n3
  cases hg:goT s.rows 0 ((zb5 l J.values d).take (zcg l b).length) with
  |none=>rw[hg] at n3;cases n3
  |some x=>rfl
theorem zia.side{r:zah}{Ts Ns:List zad}{J:zau}(h:zia r Ts Ns J){i:Nat}{s:zee}(hs:J.sides[i]?=some s):Ts[i]?=some s.rows:=by
 rw[← h.sides];simp[hs]
theorem zia.some{r:zah}{Ts Ns:List zad}{W:Nat}{J:zau}(h:zia r Ts Ns J)(hf:zdu r Ts W){i:Nat}{l:zaj}(hl:r.plain[i]?=some l):∃ s,J.sides[i]?=some s:=by
 have h1:J.sides.length=r.plain.length:=by rw[← hf.len,← h.sides];simp
 have h2:i < r.plain.length:=(List.getElem?_eq_some_iff.1 hl).1
 exact⟨_,List.getElem?_eq_getElem (by omega)⟩
theorem zia.holdsAt{r:zah}{Ts Ns:List zad}{J:zau}(h:zia r Ts Ns J){d:Nat}(hd:d < 5):J.holds.getD d []=zb0 r d:=by
 rw[h.holds];simp[List.getD,hd]
theorem JAt.hold{r:zah}{Ts Ns:List zad}{W:Nat}{J:zau}{d:Nat}(h:JAt r Ts Ns W J d)(hr:zfw r)(hf:zdu r Ts W){x:Nat × Nat}(hx:x∈zb0 r d) :
  ∃ l s,r.plain[x.1]?=some l/\J.sides[x.1]?=some s/\zdd l d=true/\x.2=(zcg l d).length/\x.2 < 3/\zcp J x=true/\zd5 s.rows/\s.rows.width<=W/\∀ v,goT s.rows 0 (zb5 l J.values d++[v])=zhx J x v:=by
 obtain⟨i,lv⟩:=x
 obtain⟨l,h1,h2,h3⟩:=zss hx
 obtain⟨s,hs⟩:=h.stat.some hf h1
 have hlv:(zcg l (d+1)).length=lv+1:=by rw[zej,if_pos h2,h3];simp
 have h4:lv < 3:=by
  have:=zkf l (d+1)
  have:=hr.terms l (List.mem_of_getElem? h1)
  omega
 have hil:i < J.sides.length:=(List.getElem?_eq_some_iff.1 hs).1
 obtain⟨t1,t2,t3⟩:=hf.ok i l s.rows h1 (h.stat.side hs)
 refine⟨l,s,h1,hs,h2,h3,h4,by simp[zcp,hil,h4],t1,t3,fun v=>?_⟩
 obtain⟨n1,n2,n3⟩:=h.nodes i l s h1 hs
 have:=n2 lv (by omega) h4
 rw[h3,show(zb5 l J.values d).take (zcg l d).length=zb5 l J.values d by rw[← zgv l J.values d];exact List.take_length] at this
 rw[zfo,this]
 unfold zhx
 simp only[List.getD,hs,Option.getD_some,Option.bind_some,goT,h3]
 cases zax s.rows _ v <;> rfl
theorem zqz{r:zah}{Ts Ns:List zad}{J:zau}(h:zia r Ts Ns J)(k:Nat):zb1 J k=true↔∃ x∈r.nots.zip Ns,zdm x.1=k/\(zdq x.2 (zcr x.1 J.values)).isSome=true:=by
 unfold zb1
 rw[h.bars,List.any_map,List.any_eq_true]
 simp
theorem JAt.take{r:zah}{Ts Ns:List zad}{W:Nat}{J:zau}{d v:Nat}(h:JAt r Ts Ns W J d)(hr:zfw r)(hf:zdu r Ts W)(hd:d < r.vars)(hv:∀ x∈zb0 r d,(zhx J x v).isSome=true)(hW:v < W) :
  (zfu J d v).values=J.values.set d v/\(∀ i,i < d->(zfu J d v).from.getD i 0=J.from.getD i 0)/\(zfu J d v).from.getD d 0=v+1/\(d+1 < 5->(zfu J d v).from.getD (d+1) 0=0)/\JAt r Ts Ns W (zfu J d v) d/\(zb1 (zfu J d v) (d+1)=false->JAt r Ts Ns W (zfu J d v) (d+1)):=by
 have hv5:=hr.vars
 have hd5:d < 5:=by omega
 have hvl:=h.stat.vlen
 have hfl:=h.stat.flen
 unfold zfu
 rw[if_neg (by omega),h.stat.holdsAt hd5]
 obtain⟨ss,e1,e2,e3⟩:=zph v (zb0 r d) { J with values:=J.values.set d v,«from»:=(if d+1 < 5 then(J.from.set d (v+1)).set (d+1) 0 else J.from.set d (v+1)) } (znr r d) (fun x hx=>by
  obtain⟨_,_,_,_,_,_,_,q,_⟩:=h.hold hr hf hx
  unfold zcp at q ⊢
  exact q)
 rw[e1]
 simp only at e2 e3 ⊢
 have hfr:∀ i,i < d->(if d+1 < 5 then(J.from.set d (v+1)).set (d+1) 0 else J.from.set d (v+1)).getD i 0=J.from.getD i 0:=by
  intro i hi
  split
  ·rw[zal,if_neg (by omega),zal,if_neg (by omega)]
  ·rw[zal,if_neg (by omega)]
 have hfd:(if d+1 < 5 then(J.from.set d (v+1)).set (d+1) 0 else J.from.set d (v+1)).getD d 0=v+1:=by
  split
  ·rw[zal,if_neg (by omega),zal,if_pos ⟨rfl,by omega⟩]
  ·rw[zal,if_pos ⟨rfl,by omega⟩]
 have hrows:ss.map (·.rows)=Ts:=by
  rw[← h.stat.sides]
  refine List.ext_getElem? fun i=>?_
  simp only[List.getElem?_map]
  cases hs:J.sides[i]? with
  |none =>
   have:J.sides.length<=i:=List.getElem?_eq_none_iff.1 hs
   rw[List.getElem?_eq_none (by omega)]
  |some s =>
   rw[e3 i s hs]
   simp only[Option.map_some,Option.some.injEq]
   cases (zb0 r d).lookup i with
   |none=>rfl
   |some lv=>simp only[setDown];split <;> rfl
 have hstat:zia r Ts Ns { J with sides:=ss,values:=J.values.set d v,«from»:=(if d+1 < 5 then(J.from.set d (v+1)).set (d+1) 0 else J.from.set d (v+1)) }:=⟨h.stat.head,h.stat.vars,h.stat.holds,h.stat.backs,h.stat.last,h.stat.bars,hrows,by simpa using hvl,by show(if d+1 < 5 then(J.from.set d (v+1)).set (d+1) 0 else J.from.set d (v+1)).length=5;split <;> simpa using hfl⟩
 have hlow:∀ l:zaj,zb5 l (J.values.set d v) d=zb5 l J.values d:=fun l=>zh4 l fun p hp _=>by rw[zal,if_neg (by omega)]
 have hnodes:∀(i:Nat) (l:zaj) (s s':zee),r.plain[i]?=some l->J.sides[i]?=some s->ss[i]?=some s'->s'.nodes.length=3/\(∀ k,k<=(zcg l d).length->k < 3->goT s'.rows 0 ((zb5 l J.values d).take k)=some (s'.nodes.getD k 0))/\(goT s'.rows 0 (zb5 l J.values d)).isSome=true/\(∀ k,k<=(zcg l (d+1)).length->k < 3->goT s'.rows 0 ((zb5 l (J.values.set d v) (d+1)).take k)=some (s'.nodes.getD k 0))/\(goT s'.rows 0 (zb5 l (J.values.set d v) (d+1))).isSome=true:=by
  intro i l s s' hl hs hs'
  obtain⟨n1,n2,n3⟩:=h.nodes i l s hl hs
  rw[e3 i s hs] at hs'
  by_cases hh:zdd l d=true
  ·have hm:=holds_of hl hh
   rw[zy3 (znr r d) hm] at hs'
   simp only[Option.some.injEq] at hs'
   obtain⟨l',s0,q1,q2,_,q4,q5,_,_,_,q9⟩:=h.hold hr hf hm
   simp only at q1 q2 q5
   rw[hl] at q1;rw[hs] at q2
   simp only[Option.some.injEq] at q1 q2
   subst q1;subst q2
   have hvv:=hv _ hm
   obtain⟨bb,hbb⟩:=Option.isSome_iff_exists.1 hvv
   have hgo:=q9 v
   rw[hbb] at hgo
   have hp:zb5 l (J.values.set d v) (d+1)=zb5 l J.values d++[v]:=by rw[zp6 l _ _ _ (by omega),if_pos hh]
   have hrow':s'.rows=s.rows:=by rw[← hs'];unfold setDown;split <;> rfl
   have hlen:(zb5 l J.values d).length=(zcg l d).length:=zgv _ _ _
   have hnd:∀ k,k<=(zcg l d).length->s'.nodes.getD k 0=s.nodes.getD k 0:=by
    intro k hk
    rw[← hs'];unfold setDown;split
    ·rfl
    ·rw[zal,if_neg (by omega)]
   have hdn:zax s.rows (s.nodes.getD (zcg l d).length 0) v=some bb:=by
    unfold zhx at hbb
    simpa [List.getD,hs] using hbb
   refine⟨by rw[← hs'];unfold setDown;split <;> simp[n1],fun k hk h3=>by rw[hrow',hnd k hk];exact n2 k hk h3,by rw[hrow'];exact n3,fun k hk h3=>?_,by rw[hrow',hp,hgo];rfl⟩
   rw[hrow',hp]
   rw[zej,if_pos hh,List.length_append,List.length_singleton] at hk
   by_cases hk2:k<=(zcg l d).length
   ·rw[List.take_append_of_le_length (by omega),hnd k hk2]
    exact n2 k hk2 h3
   ·have:k=(zcg l d).length+1:=by omega
    subst this
    rw[List.take_of_length_le (by simp[hlen]),hgo,← hs']
    unfold setDown
    rw[if_neg (by omega)]
    simp only
    rw[zal,if_pos ⟨rfl,by omega⟩,hdn]
    rfl
  ·have hno:∀ lv,(i,lv)∉zb0 r d:=fun lv hm=>by
    obtain⟨l',q1,q2,_⟩:=zss hm
    rw[hl] at q1
    simp only[Option.some.injEq] at q1
    subst q1
    exact hh q2
   rw[zvk hno] at hs'
   simp only[Option.some.injEq] at hs'
   subst hs'
   have hp:zb5 l (J.values.set d v) (d+1)=zb5 l J.values d:=by rw[zp6 l _ _ _ (by omega),if_neg hh]
   have hvv:zcg l (d+1)=zcg l d:=by rw[zej,if_neg hh]
   exact⟨n1,n2,n3,by rw[hp,hvv];exact n2,by rw[hp];exact n3⟩
 have hside:∀(i:Nat) (l:zaj) (s':zee),r.plain[i]?=some l->ss[i]?=some s'->∃ s,J.sides[i]?=some s:=fun i l s' hl _=>h.stat.some hf hl
 have hrl:∀ x∈r.nots.zip Ns,zdm x.1<=d->zcr x.1 (J.values.set d v)=zcr x.1 J.values:=fun x _ hk=>zft x.1 fun p hp=>by
  have:=zky x.1 hp
  rw[zal,if_neg (by omega)]
 refine⟨trivial,hfr,hfd,fun h5=>?_,⟨hstat,fun i l s' hl hs'=>?_,fun x hx hk=>?_,fun i hi=>?_,fun i hi=>?_⟩,fun hb=>⟨hstat,fun i l s' hl hs'=>?_,fun x hx hk=>?_,fun i hi=>?_,fun i hi=>?_⟩⟩
 ·rw[if_pos h5,zal,if_pos ⟨rfl,by simp;omega⟩]
 ·obtain⟨s,hs⟩:=hside i l s' hl hs'
  obtain⟨a1,a2,a3,_,_⟩:=hnodes i l s s' hl hs hs'
  exact⟨a1,by rw[hlow];exact a2,by rw[hlow];exact a3⟩
 ·show zdq x.2 (zcr x.1 (J.values.set d v))=none
  rw[hrl x hx hk];exact h.nob x hx hk
 ·show(if d+1 < 5 then _ else _:List Nat).getD i 0=(J.values.set d v).getD i 0+1
  rw[hfr i hi,zal,if_neg (by omega)];exact h.from i hi
 ·show(J.values.set d v).getD i 0 < W
  rw[zal,if_neg (by omega)];exact h.small i hi
 ·obtain⟨s,hs⟩:=hside i l s' hl hs'
  obtain⟨a1,_,_,a4,a5⟩:=hnodes i l s s' hl hs hs'
  exact⟨a1,a4,a5⟩
 ·show zdq x.2 (zcr x.1 (J.values.set d v))=none
  by_cases hkd:zdm x.1<=d
  ·rw[hrl x hx hkd];exact h.nob x hx hkd
  ·cases hm:zdq x.2 (zcr x.1 (J.values.set d v)) with
   |none=>rfl
   |some m =>
    have:=(zqz hstat (d+1)).2 ⟨x,hx,by omega,by show(zdq x.2 (zcr x.1 (J.values.set d v))).isSome=true;rw[hm];rfl⟩
    rw[hb] at this;cases this
 ·show(if d+1 < 5 then _ else _:List Nat).getD i 0=(J.values.set d v).getD i 0+1
  by_cases hi2:i=d
  ·subst hi2
   rw[hfd,zal,if_pos ⟨rfl,by omega⟩]
  ·rw[hfr i (by omega),zal,if_neg (by omega)];exact h.from i (by omega)
 ·show(J.values.set d v).getD i 0 < W
  by_cases hi2:i=d
  ·subst hi2
   rw[zal,if_pos ⟨rfl,by omega⟩];exact hW
  ·rw[zal,if_neg (by omega)];exact h.small i (by omega)
end Go.Proofs.YteampbddflhngabGreat
