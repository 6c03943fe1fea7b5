import Derived.Test.YteampbddflhngaaGreatS34

namespace Go.Proofs.YteampbddflhngaaGreat
def zch(l:zak)(d:Nat):List Nat:=(List.range d).filter (zdf l)
def zb7(l:zak)(vals:List Nat)(d:Nat):zao:=(zch l d).map fun p=>vals.getD p 0
theorem zep(l:zak)(d:Nat):zch l (d+1)=if zdf l d then zch l d++[d] else zch l d:=by
 unfold zch
 rw[List.range_succ,List.filter_append]
 by_cases h:zdf l d <;> simp[h]
theorem zh3(l:zak)(d p:Nat):p∈zch l d↔p < d/\zdf l p=true:=by simp[zch]
theorem zsd(l:zak){a b:Nat}(h:a<=b):zch l a <+: zch l b:=by
 induction h with
 |refl=>exact List.prefix_rfl
 |step h ih =>
  rw[zep]
  split
  ·exact ih.trans (List.prefix_append _ _)
  ·exact ih
theorem zog(l:zak)(p:Nat):zbr l p=if zdf l p then some (zch l p).length else none:=by
 unfold zbr zch
 rw[List.countP_eq_length_filter]
theorem zec(l:zak):zbc l=(zch l 5).length:=by
 unfold zbc zch
 rw[List.countP_eq_length_filter]
theorem zg3(l:zak)(vals:List Nat)(d:Nat):(zb7 l vals d).length=(zch l d).length:=by simp[zb7]
theorem zic(l:zak){x y:List Nat}{d:Nat}(h:∀ p,p < d->zdf l p=true->x.getD p 0=y.getD p 0):zb7 l x d=zb7 l y d:=by
 unfold zb7
 refine List.map_congr_left fun p hp=>?_
 have:=(zh3 l d p).1 hp
 exact h p this.1 this.2
theorem zi9(l:zak)(vals:List Nat){a b:Nat}(h:a<=b):zb7 l vals a=(zb7 l vals b).take (zch l a).length:=by
 obtain⟨t,ht⟩:=zsd l h
 unfold zb7
 rw[← ht]
 simp
theorem zqw(l:zak)(vals:List Nat)(d v:Nat)(hd:d < vals.length):zb7 l (vals.set d v) (d+1)=if zdf l d then zb7 l vals d++[v] else zb7 l vals d:=by
 have h0:(zch l d).map (fun p=>(vals.set d v).getD p 0)=(zch l d).map fun p=>vals.getD p 0:=by
  refine List.map_congr_left fun p hp=>?_
  have:=(zh3 l d p).1 hp
  rw[zam,if_neg (by omega)]
 unfold zb7
 rw[zep]
 split
 ·rw[List.map_append,h0]
  simp[hd]
 ·exact h0
theorem zqn:∀ {l1 l2:List Nat},l1.Nodup->(∀ x∈l1,x∈l2)->l1.length<=l2.length
 |[],l2,_,_=>by simp
 |a::l1,l2,hn,hs=>by
  have ha:=hs a (by simp)
  have h1:=zqn (l1:=l1) (l2:=l2.erase a) (List.nodup_cons.1 hn).2 (fun x hx=>by
   have hne:x≠a:=by rintro rfl;exact(List.nodup_cons.1 hn).1 hx
   exact(List.mem_erase_of_ne hne).2 (hs x (by simp[hx])))
  rw[List.length_erase_of_mem ha] at h1
  have:=List.length_pos_of_mem ha
  simp;omega
theorem zfg(l:zak)(p:Nat):zdf l p=true↔∃ t∈l.terms,t.var=true/\t.num=p:=by
 unfold zdf
 rw[List.any_eq_true]
 constructor
 ·rintro⟨t,h1,h2⟩
  simp only[Bool.and_eq_true,beq_iff_eq] at h2
  exact⟨t,h1,h2.1,h2.2⟩
 ·rintro⟨t,h1,h2,h3⟩
  exact⟨t,h1,by simp[h2,h3]⟩
theorem zkt(l:zak)(d:Nat):(zch l d).length<=l.terms.length:=by
 have:=zqn (l1:=zch l d) (l2:=l.terms.map (·.num)) (List.nodup_range.filter _) (fun p hp=>by
  obtain⟨t,h1,_,h3⟩:=(zfg l p).1 ((zh3 l d p).1 hp).2
  exact List.mem_map.2 ⟨t,h1,h3⟩)
 simpa using this
theorem zlg(known:Int):∀(ts:List zbo) (k:Int),k<=ts.foldl (fun k t=>if t.var && decide ((t.num:Int) < known) && decide ((t.num:Int) > k) then(t.num:Int) else k) k/\(∀ t∈ts,t.var=true->(t.num:Int) < known->(t.num:Int)<=ts.foldl (fun k t=>if t.var && decide ((t.num:Int) < known) && decide ((t.num:Int) > k) then(t.num:Int) else k) k)/\(k < known->ts.foldl (fun k t=>if t.var && decide ((t.num:Int) < known) && decide ((t.num:Int) > k) then(t.num:Int) else k) k < known)
 |[],k=>⟨Int.le_refl _,fun t h=>(by cases h),fun h=>h⟩
 |t::ts,k=>by
  simp only[List.foldl_cons]
  by_cases hc:(t.var && decide ((t.num:Int) < known) && decide ((t.num:Int) > k))=true
  ·rw[if_pos hc]
   simp only[Bool.and_eq_true,decide_eq_true_eq] at hc
   obtain⟨i1,i2,i3⟩:=zlg known ts (t.num:Int)
   refine⟨by omega,fun u hu hv hk=>?_,fun _=>i3 (by omega)⟩
   rcases List.mem_cons.1 hu with rfl|hu
   ·exact i1
   ·exact i2 u hu hv hk
  ·rw[if_neg hc]
   obtain⟨i1,i2,i3⟩:=zlg known ts k
   refine⟨i1,fun u hu hv hk=>?_,i3⟩
   rcases List.mem_cons.1 hu with rfl|hu
   ·have:(u.num:Int)<=k:=by
     simp only[hv,hk,Bool.true_and,decide_true,decide_eq_true_eq] at hc
     omega
    omega
   ·exact i2 u hu hv hk
theorem zrx(l:zak){known:Int}{p:Nat}(hp:zdf l p=true)(hk:(p:Int) < known):(p:Int)<=zil l known:=by
 obtain⟨t,h1,h2,h3⟩:=(zfg l p).1 hp
 have:=(zlg known l.terms (-1)).2.1 t h1 h2 (by omega)
 unfold zil
 omega
theorem zx0(l:zak){known:Int}(hk:0<=known):zil l known < known:=(zlg known l.terms (-1)).2.2 (by omega)
theorem z3e(l:zak)(known:Int):-1<=zil l known:=(zlg known l.terms (-1)).1
theorem zld:∀(ts:List zbo) (k:Nat),k<=ts.foldl (fun k t=>if t.var && decide (t.num ≥ k) then t.num+1 else k) k/\(∀ t∈ts,t.var=true->t.num < ts.foldl (fun k t=>if t.var && decide (t.num ≥ k) then t.num+1 else k) k)/\∀ b,k<=b->(∀ t∈ts,t.var=true->t.num < b)->ts.foldl (fun k t=>if t.var && decide (t.num ≥ k) then t.num+1 else k) k<=b
 |[],k=>⟨Nat.le_refl _,fun t h=>(by cases h),fun b h _=>h⟩
 |t::ts,k=>by
  simp only[List.foldl_cons]
  by_cases hc:(t.var && decide (t.num ≥ k))=true
  ·rw[if_pos hc]
   simp only[Bool.and_eq_true,decide_eq_true_eq] at hc
   obtain⟨i1,i2,i3⟩:=zld ts (t.num+1)
   refine⟨by omega,fun u hu hv=>?_,fun b hb hq=>i3 b (by have:=hq t (by simp) hc.1;omega) fun u hu=>hq u (by simp[hu])⟩
   rcases List.mem_cons.1 hu with rfl|hu
   ·omega
   ·exact i2 u hu hv
  ·rw[if_neg hc]
   obtain⟨i1,i2,i3⟩:=zld ts k
   refine⟨i1,fun u hu hv=>?_,fun b hb hq=>i3 b hb fun u hu=>hq u (by simp[hu])⟩
   rcases List.mem_cons.1 hu with rfl|hu
   ·have:u.num < k:=by simp only[hv,Bool.true_and,decide_eq_true_eq] at hc;omega
    omega
   ·exact i2 u hu hv
theorem zle(l:zak){p:Nat}(hp:zdf l p=true):p < zdp l:=by
 obtain⟨t,h1,h2,h3⟩:=(zfg l p).1 hp
 have:=(zld l.terms 0).2.1 t h1 h2
 unfold zdp
 omega
theorem ztx(l:zak){k:Nat}(h:∀ p,zdf l p=true->p < k):zdp l<=k :=
 (zld l.terms 0).2.2 k (by omega) fun t ht hv=>h t.num ((zfg l t.num).2 ⟨t,ht,hv,rfl⟩)
theorem z7s(l:zak){known:Int}(hk:0<=known):zh2 l known < known:=by
 unfold zh2;split
 ·omega
 ·exact zx0 l hk
theorem zrq(known:Int):∀(ls:List zak) (b:Int),b<=ls.foldl (zbd known) b/\(∀ l∈ls,zh2 l known<=ls.foldl (zbd known) b)/\(0<=known->b < known->ls.foldl (zbd known) b < known)
 |[],b=>⟨Int.le_refl _,fun l h=>(by cases h),fun _ h=>h⟩
 |l::ls,b=>by
  simp only[List.foldl_cons]
  obtain⟨i1,i2,i3⟩:=zrq known ls (zbd known b l)
  have hs:b<=zbd known b l/\zh2 l known<=zbd known b l:=by unfold zbd;split <;> omega
  refine⟨by omega,fun u hu=>?_,fun h0 hb=>i3 h0 ?_⟩
  ·rcases List.mem_cons.1 hu with rfl|hu
   ·omega
   ·exact i2 u hu
  ·have:=z7s l h0
   unfold zbd;split <;> omega
theorem zl6(r:zah){known:Int}(hk:0<=known):zd9 r known < known/\-1<=zd9 r known/\zil r.head known<=zd9 r known/\(∀ l∈r.plain,zh2 l known<=zd9 r known)/\∀ l∈r.nots,zh2 l known<=zd9 r known:=by
 unfold zd9
 obtain⟨a1,a2,a3⟩:=zrq known r.plain (zil r.head known)
 obtain⟨b1,b2,b3⟩:=zrq known r.nots (r.plain.foldl (zbd known) (zil r.head known))
 have:=z3e r.head known
 exact⟨b3 hk (a3 hk (zx0 r.head hk)),by omega,by omega,fun l hl=>by have:=a2 l hl;omega,b2⟩
theorem zyp{l:zak}{known:Nat}{b:Int}(h:zh2 l known<=b):(∀ p,zdf l p=true->p < known)∨∀ p,zdf l p=true->p < known->(p:Int)<=b:=by
 unfold zh2 at h
 by_cases hc:(zdp l:Int)<=known
 ·exact Or.inl fun p hp=>by have:=zle l hp;omega
 ·rw[if_neg hc] at h
  exact Or.inr fun p hp hk=>by have:=zrx l (known:=(known:Int)) hp (by omega);omega
structure zf3 (r:zah):Prop where
 vars:r.vars<=5
 terms:∀ l∈r.plain,l.terms.length<=3
 plain:∀ l∈r.plain,∀ p,zdf l p=true->p < r.vars
 nots:∀ l∈r.nots,∀ p,zdf l p=true->p < r.vars
 head:∀ p,zdf r.head p=true->p < r.vars
 safe:∀ p,p < r.vars->∃ l∈r.plain,zdf l p=true
structure zdz (r:zah) (Ts:List zad) (W:Nat):Prop where
 len:Ts.length=r.plain.length
 ok:∀(i:Nat) (l:zak) (T:zad),r.plain[i]?=some l->Ts[i]?=some T->zea T/\T.depth=zby (zbc l)/\T.width<=W
structure zij (r:zah) (Ts Ns:List zad) (J:zav):Prop where
 head:J.head=r.head
 vars:J.vars=r.vars
 holds:J.holds=(List.range 5).map (zb3 r)
 backs:J.backs=(List.range 5).map fun p=>zd9 r (p:Nat)
 last:J.last=zd9 r r.vars
 bars:J.bars=(r.nots.zip Ns).map fun x=>⟨x.1,zdp x.1,x.2⟩
 sides:J.sides.map (·.rows)=Ts
 vlen:J.values.length=5
 flen:J.from.length=5
theorem zfz(l:zak){x y:List Nat}(h:∀ p,zdf l p=true->x.getD p 0=y.getD p 0):zcs l x=zcs l y:=by
 have hc:∀ i,rowCell l x i=rowCell l y i:=by
  intro i
  unfold rowCell
  split
  ·rename_i hi
   unfold atT
   rw[show l.terms.getD i ⟨false,0,0⟩=l.terms[i] by simp[List.getD,hi]]
   split
   ·rename_i hv
    simp only[Bool.and_eq_true,decide_eq_true_eq] at hv
    exact h _ ((zfg l _).2 ⟨_,List.getElem_mem hi,hv.1,rfl⟩)
   ·rfl
  ·rfl
 unfold zcs
 rw[hc,hc,hc]
def z9u(T:zad)(l:zak)(y:List Nat):Prop:=(zbc l=0->T.count≠0)/\(zbc l≠0->(zj3 T (zb7 l y 5)).isSome=true)
def zsi(r:zah)(Ts Ns:List zad)(y:List Nat):Prop:=(∀(i:Nat) (l:zak) (T:zad),r.plain[i]?=some l->Ts[i]?=some T->z9u T l y)/\∀ x∈r.nots.zip Ns,zdv x.2 (zcs x.1 y)=none
theorem z0x{r:zah}{l:zak}(hl:∀ p,zdf l p=true->p < r.vars){d:Nat}(hd:r.vars<=d):zch l d=zch l r.vars:=by
 induction hd with
 |refl=>rfl
 |@step m h ih =>
  rw[zep,if_neg (fun q=>by have:=hl _ q;have:r.vars<=m:=h;omega),ih]
theorem z0f{r:zah}(hv:r.vars<=5){l:zak}(hl:∀ p,zdf l p=true->p < r.vars)(y:List Nat):zb7 l y 5=zb7 l y r.vars:=by
 unfold zb7
 rw[z0x hl hv]
def z8f(r:zah)(J:zav)(d:Nat):Prop:=∀(i:Nat) (l:zak) (s:zek),r.plain[i]?=some l->J.sides[i]?=some s->s.nodes.length=3/\(∀ k,k<=(zch l d).length->k < 3->goT s.rows 0 ((zb7 l J.values d).take k)=some (s.nodes.getD k 0))/\(goT s.rows 0 (zb7 l J.values d)).isSome=true
def z90(r:zah)(Ns:List zad)(vals:List Nat)(d:Nat):Prop:=∀ x∈r.nots.zip Ns,zdp x.1<=d->zdv x.2 (zcs x.1 vals)=none
theorem ztp{r:zah}{d i lv:Nat}(h:(i,lv)∈zb3 r d):∃ l,r.plain[i]?=some l/\zdf l d=true/\lv=(zch l d).length:=by
 unfold zb3 at h
 simp only[List.mem_filterMap,Option.map_eq_some_iff,Prod.mk.injEq] at h
 obtain⟨⟨l,j⟩,h1,lv',h2,h3,h4⟩:=h
 rw[zog] at h2
 split at h2
 ·rename_i hh
  simp only[Option.some.injEq] at h2
  have:=List.mem_zipIdx_iff_getElem?.1 h1
  simp only at this h3 hh h2
  subst h3
  exact⟨l,this,hh,by omega⟩
 ·cases h2
theorem holds_of{r:zah}{d i:Nat}{l:zak}(h:r.plain[i]?=some l)(hh:zdf l d=true):(i,(zch l d).length)∈zb3 r d:=by
 unfold zb3
 simp only[List.mem_filterMap,Option.map_eq_some_iff,Prod.mk.injEq]
 refine⟨(l,i),List.mem_zipIdx_iff_getElem?.2 h,(zch l d).length,?_,rfl,rfl⟩
 rw[zog,if_pos hh]
theorem zoc(r:zah)(d:Nat):((zb3 r d).map (·.1)).Nodup:=by
 unfold zb3
 have key:∀(ls:List zak) (n:Nat),(((ls.zipIdx n).filterMap fun x=>(zbr x.1 d).map fun lv=>(x.2,lv)).map (·.1)).Nodup/\∀ i∈((ls.zipIdx n).filterMap fun x=>(zbr x.1 d).map fun lv=>(x.2,lv)).map (·.1),n<=i:=by
  intro ls
  induction ls with
  |nil=>intro n;simp
  |cons l ls ih =>
   intro n
   obtain⟨i1,i2⟩:=ih (n+1)
   rw[List.zipIdx_cons,List.filterMap_cons]
   cases hl:(zbr l d).map fun lv=>(n,lv) with
   |none=>exact⟨i1,fun i hi=>by have:=i2 i hi;omega⟩
   |some x =>
    have hx:x.1=n:=by
     simp only[Option.map_eq_some_iff] at hl
     obtain⟨a,_,rfl⟩:=hl
     rfl
    simp only[List.map_cons,List.nodup_cons,List.mem_cons]
    refine⟨⟨fun hm=>by have:=i2 _ hm;omega,i1⟩,?_⟩
    rintro i (rfl|hi)
    ·omega
    ·have:=i2 i hi;omega
 exact(key r.plain 0).1
def setDown(v lv:Nat)(s:zek):zek:=if lv+1 ≥ 3 then s else{ s with nodes:=s.nodes.set (lv+1) ((zax s.rows (s.nodes.getD lv 0) v).getD 0) }
theorem zzf{J:zav}{v:Nat}{h:Nat × Nat}(hs:zcq J h=true):zel v J h={ J with sides:=J.sides.set h.1 (setDown v h.2 (J.sides.getD h.1 zek.zero)) }:=by
 unfold zel setDown
 by_cases h3:h.2+1 ≥ 3
 ·rw[if_pos (Or.inr h3),if_pos h3]
  have hl:h.1 < J.sides.length:=by simp only[zcq,Bool.and_eq_true,decide_eq_true_eq] at hs;exact hs.1
  have:J.sides.set h.1 (J.sides.getD h.1 zek.zero)=J.sides:=by
   rw[show J.sides.getD h.1 zek.zero=J.sides[h.1] by simp[List.getD,hl]]
   exact List.set_getElem_self _
  rw[this]
 ·rw[if_neg (by rintro(q|q);rw[hs] at q;cases q;exact h3 q),if_neg h3]
theorem zp5(v:Nat):∀(hs:List (Nat × Nat)) (J:zav),(hs.map (·.1)).Nodup->(∀ h∈hs,zcq J h=true)->∃ ss,hs.foldl (zel v) J={ J with sides:=ss }/\ss.length=J.sides.length/\∀ i s,J.sides[i]?=some s->ss[i]?=some (match hs.lookup i with|none=>s|some lv=>setDown v lv s)
 |[],J,_,_=>⟨J.sides,rfl,rfl,fun i s h=>by simpa using h⟩
 |(j,lv)::hs,J,hn,hst=>by
  simp only[List.foldl_cons]
  have h0:=hst (j,lv) (by simp)
  rw[zzf h0]
  simp only
  have hjl:j < J.sides.length:=by simp only[zcq,Bool.and_eq_true,decide_eq_true_eq] at h0;exact h0.1
  simp only[List.map_cons,List.nodup_cons] at hn
  obtain⟨ss,e1,e2,e3⟩:=zp5 v hs { J with sides:=J.sides.set j (setDown v lv (J.sides.getD j zek.zero)) } hn.2 (fun h hh=>by
   have:=hst h (by simp[hh])
   unfold zcq at this ⊢
   simpa using this)
  refine⟨ss,e1,by simpa using e2,fun i s hi=>?_⟩
  by_cases hij:i=j
  ·subst hij
   have hg:J.sides.getD i zek.zero=s:=by simp[List.getD,hi]
   have:=e3 i (setDown v lv s) (by rw[hg];simp[hjl])
   rw[this]
   have hnone:hs.lookup i=none:=by
    rw[List.lookup_eq_none_iff]
    intro x hx
    have:x.1≠i:=by
     rintro rfl
     exact hn.1 (List.mem_map.2 ⟨x,hx,rfl⟩)
    simpa using fun q=>this q.symm
   rw[hnone]
   simp[List.lookup]
  ·have:=e3 i s (by simp only[List.getElem?_set,Ne.symm hij,if_false];exact hi)
   rw[this]
   have hb:(i == j)=false:=by simp[hij]
   simp[List.lookup,hb]
theorem zz3{hs:List (Nat × Nat)}{i lv:Nat}(hn:(hs.map (·.1)).Nodup)(hm:(i,lv)∈hs):hs.lookup i=some lv:=by
 induction hs with
 |nil=>cases hm
 |cons a hs ih =>
  obtain⟨j,m⟩:=a
  simp only[List.map_cons,List.nodup_cons] at hn
  rcases List.mem_cons.1 hm with e|hm2
  ·simp only[Prod.mk.injEq] at e
   obtain⟨rfl,rfl⟩:=e
   simp[List.lookup]
  ·have:i≠j:=by
    rintro rfl
    exact hn.1 (List.mem_map.2 ⟨(i,lv),hm2,rfl⟩)
   have hb:(i == j)=false:=by simp[this]
   simp only[List.lookup,hb]
   exact ih hn.2 hm2
theorem zwe{hs:List (Nat × Nat)}{i:Nat}(h:∀ lv,(i,lv)∉hs):hs.lookup i=none:=by
 rw[List.lookup_eq_none_iff]
 rintro⟨j,m⟩ hx
 have:i≠j:=by rintro rfl;exact h m hx
 simpa using this
structure JAt (r:zah) (Ts Ns:List zad) (W:Nat) (J:zav) (d:Nat):Prop where
 stat:zij r Ts Ns J
 nodes:z8f r J d
 nob:z90 r Ns J.values d
 «from» : ∀ i,i < d->J.from.getD i 0=J.values.getD i 0+1
 small:∀ i,i < d->J.values.getD i 0 < W
theorem zij.same{r:zah}{Ts Ns:List zad}{J J':zav}(h:zij r Ts Ns J)(s:zkw J J'):zij r Ts Ns J':=by
 rw[s];exact⟨h.head,h.vars,h.holds,h.backs,h.last,h.bars,h.sides,h.vlen,h.flen⟩
theorem JAt.same{r:zah}{Ts Ns:List zad}{W:Nat}{J J':zav}{d:Nat}(h:JAt r Ts Ns W J d)(s:zkw J J'):JAt r Ts Ns W J' d:=by
 refine⟨h.stat.same s,?_,?_,?_,?_⟩
 ·rw[s];exact h.nodes
 ·rw[s];exact h.nob
 ·rw[s];exact h.from
 ·rw[s];exact h.small
theorem JAt.back{r:zah}{Ts Ns:List zad}{W:Nat}{J:zav}{d b:Nat}(h:JAt r Ts Ns W J d)(hb:b<=d):JAt r Ts Ns W J b:=by
 refine⟨h.stat,fun i l s hl hs=>?_,fun x hx hk=>h.nob x hx (by omega),fun i hi=>h.from i (by omega),fun i hi=>h.small i (by omega)⟩
 obtain⟨n1,n2,n3⟩:=h.nodes i l s hl hs
 have hle:(zch l b).length<=(zch l d).length:=(zsd l hb).length_le
 refine⟨n1,fun k hk h3=>?_,?_⟩
 ·rw[zi9 l J.values hb,List.take_take,Nat.min_eq_left hk]
  exact n2 k (by omega) h3
 ·rw[zi9 l J.values hb]
  have hsp:zb7 l J.values d=(zb7 l J.values d).take (zch l b).length++(zb7 l J.values d).drop (zch l b).length:=(List.take_append_drop _ _).symm
  rw[hsp,zfu] at n3
  cases hg:goT s.rows 0 ((zb7 l J.values d).take (zch l b).length) with
  |none=>rw[hg] at n3;cases n3
  |some x=>rfl
theorem zij.side{r:zah}{Ts Ns:List zad}{J:zav}(h:zij r Ts Ns J){i:Nat}{s:zek}(hs:J.sides[i]?=some s):Ts[i]?=some s.rows:=by
 rw[← h.sides];simp[hs]
theorem zij.some{r:zah}{Ts Ns:List zad}{W:Nat}{J:zav}(h:zij r Ts Ns J)(hf:zdz r Ts W){i:Nat}{l:zak}(hl:r.plain[i]?=some l):∃ s,J.sides[i]?=some s:=by
 have h1:J.sides.length=r.plain.length:=by rw[← hf.len,← h.sides];simp
 have h2:i < r.plain.length:=(List.getElem?_eq_some_iff.1 hl).1
 exact⟨_,List.getElem?_eq_getElem (by omega)⟩
theorem zij.holdsAt{r:zah}{Ts Ns:List zad}{J:zav}(h:zij r Ts Ns J){d:Nat}(hd:d < 5):J.holds.getD d []=zb3 r d:=by
 rw[h.holds];simp[List.getD,hd]
theorem JAt.hold{r:zah}{Ts Ns:List zad}{W:Nat}{J:zav}{d:Nat}(h:JAt r Ts Ns W J d)(hr:zf3 r)(hf:zdz r Ts W){x:Nat × Nat}(hx:x∈zb3 r d) :
  ∃ l s,r.plain[x.1]?=some l/\J.sides[x.1]?=some s/\zdf l d=true/\x.2=(zch l d).length/\x.2 < 3/\zcq J x=true/\zea s.rows/\s.rows.width<=W/\∀ v,goT s.rows 0 (zb7 l J.values d++[v])=zh5 J x v:=by
 obtain⟨i,lv⟩:=x
 obtain⟨l,h1,h2,h3⟩:=ztp hx
 obtain⟨s,hs⟩:=h.stat.some hf h1
 have hlv:(zch l (d+1)).length=lv+1:=by rw[zep,if_pos h2,h3];simp
 have h4:lv < 3:=by
  have:=zkt l (d+1)
  have:=hr.terms l (List.mem_of_getElem? h1)
  omega
 have hil:i < J.sides.length:=(List.getElem?_eq_some_iff.1 hs).1
 obtain⟨t1,t2,t3⟩:=hf.ok i l s.rows h1 (h.stat.side hs)
 refine⟨l,s,h1,hs,h2,h3,h4,by simp[zcq,hil,h4],t1,t3,fun v=>?_⟩
 obtain⟨n1,n2,n3⟩:=h.nodes i l s h1 hs
 have:=n2 lv (by omega) h4
 rw[h3,show(zb7 l J.values d).take (zch l d).length=zb7 l J.values d by rw[← zg3 l J.values d];exact List.take_length] at this
 rw[zfu,this]
 unfold zh5
 simp only[List.getD,hs,Option.getD_some,Option.bind_some,goT,h3]
 cases zax s.rows _ v <;> rfl
theorem zrr{r:zah}{Ts Ns:List zad}{J:zav}(h:zij r Ts Ns J)(k:Nat):zb4 J k=true↔∃ x∈r.nots.zip Ns,zdp x.1=k/\(zdv x.2 (zcs x.1 J.values)).isSome=true:=by
 unfold zb4
 rw[h.bars,List.any_map,List.any_eq_true]
 simp
theorem JAt.take{r:zah}{Ts Ns:List zad}{W:Nat}{J:zav}{d v:Nat}(h:JAt r Ts Ns W J d)(hr:zf3 r)(hf:zdz r Ts W)(hd:d < r.vars)(hv:∀ x∈zb3 r d,(zh5 J x v).isSome=true)(hW:v < W) :
  (zf1 J d v).values=J.values.set d v/\(∀ i,i < d->(zf1 J d v).from.getD i 0=J.from.getD i 0)/\(zf1 J d v).from.getD d 0=v+1/\(d+1 < 5->(zf1 J d v).from.getD (d+1) 0=0)/\JAt r Ts Ns W (zf1 J d v) d/\(zb4 (zf1 J d v) (d+1)=false->JAt r Ts Ns W (zf1 J d v) (d+1)):=by
 have hv5:=hr.vars
 have hd5:d < 5:=by omega
 have hvl:=h.stat.vlen
 have hfl:=h.stat.flen
 unfold zf1
 rw[if_neg (by omega),h.stat.holdsAt hd5]
 obtain⟨ss,e1,e2,e3⟩:=zp5 v (zb3 r d) { J with values:=J.values.set d v,«from»:=(if d+1 < 5 then(J.from.set d (v+1)).set (d+1) 0 else J.from.set d (v+1)) } (zoc r d) (fun x hx=>by
  obtain⟨_,_,_,_,_,_,_,q,_⟩:=h.hold hr hf hx
  unfold zcq at q ⊢
  exact q)
 rw[e1]
 simp only at e2 e3 ⊢
 have hfr:∀ i,i < d->(if d+1 < 5 then(J.from.set d (v+1)).set (d+1) 0 else J.from.set d (v+1)).getD i 0=J.from.getD i 0:=by
  intro i hi
  split
  ·rw[zam,if_neg (by omega),zam,if_neg (by omega)]
  ·rw[zam,if_neg (by omega)]
 have hfd:(if d+1 < 5 then(J.from.set d (v+1)).set (d+1) 0 else J.from.set d (v+1)).getD d 0=v+1:=by
  split
  ·rw[zam,if_neg (by omega),zam,if_pos ⟨rfl,by omega⟩]
  ·rw[zam,if_pos ⟨rfl,by omega⟩]
 have hrows:ss.map (·.rows)=Ts:=by
  rw[← h.stat.sides]
  refine List.ext_getElem? fun i=>?_
  simp only[List.getElem?_map]
  cases hs:J.sides[i]? with
  |none =>
   have:J.sides.length<=i:=List.getElem?_eq_none_iff.1 hs
   rw[List.getElem?_eq_none (by omega)]
  |some s =>
   rw[e3 i s hs]
   simp only[Option.map_some,Option.some.injEq]
   cases (zb3 r d).lookup i with
   |none=>rfl
   |some lv=>simp only[setDown];split <;> rfl
 have hstat:zij r Ts Ns { J with sides:=ss,values:=J.values.set d v,«from»:=(if d+1 < 5 then(J.from.set d (v+1)).set (d+1) 0 else J.from.set d (v+1)) }:=⟨h.stat.head,h.stat.vars,h.stat.holds,h.stat.backs,h.stat.last,h.stat.bars,hrows,by simpa using hvl,by show(if d+1 < 5 then(J.from.set d (v+1)).set (d+1) 0 else J.from.set d (v+1)).length=5;split <;> simpa using hfl⟩
 have hlow:∀ l:zak,zb7 l (J.values.set d v) d=zb7 l J.values d:=fun l=>zic l fun p hp _=>by rw[zam,if_neg (by omega)]
 have hnodes:∀(i:Nat) (l:zak) (s s':zek),r.plain[i]?=some l->J.sides[i]?=some s->ss[i]?=some s'->s'.nodes.length=3/\(∀ k,k<=(zch l d).length->k < 3->goT s'.rows 0 ((zb7 l J.values d).take k)=some (s'.nodes.getD k 0))/\(goT s'.rows 0 (zb7 l J.values d)).isSome=true/\(∀ k,k<=(zch l (d+1)).length->k < 3->goT s'.rows 0 ((zb7 l (J.values.set d v) (d+1)).take k)=some (s'.nodes.getD k 0))/\(goT s'.rows 0 (zb7 l (J.values.set d v) (d+1))).isSome=true:=by
  intro i l s s' hl hs hs'
  obtain⟨n1,n2,n3⟩:=h.nodes i l s hl hs
  rw[e3 i s hs] at hs'
  by_cases hh:zdf l d=true
  ·have hm:=holds_of hl hh
   rw[zz3 (zoc r d) hm] at hs'
   simp only[Option.some.injEq] at hs'
   obtain⟨l',s0,q1,q2,_,q4,q5,_,_,_,q9⟩:=h.hold hr hf hm
   simp only at q1 q2 q5
   rw[hl] at q1;rw[hs] at q2
   simp only[Option.some.injEq] at q1 q2
   subst q1;subst q2
   have hvv:=hv _ hm
   obtain⟨bb,hbb⟩:=Option.isSome_iff_exists.1 hvv
   have hgo:=q9 v
   rw[hbb] at hgo
   have hp:zb7 l (J.values.set d v) (d+1)=zb7 l J.values d++[v]:=by rw[zqw l _ _ _ (by omega),if_pos hh]
   have hrow':s'.rows=s.rows:=by rw[← hs'];unfold setDown;split <;> rfl
   have hlen:(zb7 l J.values d).length=(zch l d).length:=zg3 _ _ _
   have hnd:∀ k,k<=(zch l d).length->s'.nodes.getD k 0=s.nodes.getD k 0:=by
    intro k hk
    rw[← hs'];unfold setDown;split
    ·rfl
    ·rw[zam,if_neg (by omega)]
   have hdn:zax s.rows (s.nodes.getD (zch l d).length 0) v=some bb:=by
    unfold zh5 at hbb
    simpa [List.getD,hs] using hbb
   refine⟨by rw[← hs'];unfold setDown;split <;> simp[n1],fun k hk h3=>by rw[hrow',hnd k hk];exact n2 k hk h3,by rw[hrow'];exact n3,fun k hk h3=>?_,by rw[hrow',hp,hgo];rfl⟩
   rw[hrow',hp]
   rw[zep,if_pos hh,List.length_append,List.length_singleton] at hk
   by_cases hk2:k<=(zch l d).length
   ·rw[List.take_append_of_le_length (by omega),hnd k hk2]
    exact n2 k hk2 h3
   ·have:k=(zch l d).length+1:=by omega
    subst this
    rw[List.take_of_length_le (by simp[hlen]),hgo,← hs']
    unfold setDown
    rw[if_neg (by omega)]
    simp only
    rw[zam,if_pos ⟨rfl,by omega⟩,hdn]
    rfl
  ·have hno:∀ lv,(i,lv)∉zb3 r d:=fun lv hm=>by
    obtain⟨l',q1,q2,_⟩:=ztp hm
    rw[hl] at q1
    simp only[Option.some.injEq] at q1
    subst q1
    exact hh q2
   rw[zwe hno] at hs'
   simp only[Option.some.injEq] at hs'
   subst hs'
   have hp:zb7 l (J.values.set d v) (d+1)=zb7 l J.values d:=by rw[zqw l _ _ _ (by omega),if_neg hh]
   have hvv:zch l (d+1)=zch l d:=by rw[zep,if_neg hh]
   exact⟨n1,n2,n3,by rw[hp,hvv];exact n2,by rw[hp];exact n3⟩
 have hside:∀(i:Nat) (l:zak) (s':zek),r.plain[i]?=some l->ss[i]?=some s'->∃ s,J.sides[i]?=some s:=fun i l s' hl _=>h.stat.some hf hl
 have hrl:∀ x∈r.nots.zip Ns,zdp x.1<=d->zcs x.1 (J.values.set d v)=zcs x.1 J.values:=fun x _ hk=>zfz x.1 fun p hp=>by
  have:=zle x.1 hp
  rw[zam,if_neg (by omega)]
 refine⟨trivial,hfr,hfd,fun h5=>?_,⟨hstat,fun i l s' hl hs'=>?_,fun x hx hk=>?_,fun i hi=>?_,fun i hi=>?_⟩,fun hb=>⟨hstat,fun i l s' hl hs'=>?_,fun x hx hk=>?_,fun i hi=>?_,fun i hi=>?_⟩⟩
 ·rw[if_pos h5,zam,if_pos ⟨rfl,by simp;omega⟩]
 ·obtain⟨s,hs⟩:=hside i l s' hl hs'
  obtain⟨a1,a2,a3,_,_⟩:=hnodes i l s s' hl hs hs'
  exact⟨a1,by rw[hlow];exact a2,by rw[hlow];exact a3⟩
 ·show zdv x.2 (zcs x.1 (J.values.set d v))=none
  rw[hrl x hx hk];exact h.nob x hx hk
 ·show(if d+1 < 5 then _ else _:List Nat).getD i 0=(J.values.set d v).getD i 0+1
  rw[hfr i hi,zam,if_neg (by omega)];exact h.from i hi
 ·show(J.values.set d v).getD i 0 < W
  rw[zam,if_neg (by omega)];exact h.small i hi
 ·obtain⟨s,hs⟩:=hside i l s' hl hs'
  obtain⟨a1,_,_,a4,a5⟩:=hnodes i l s s' hl hs hs'
  exact⟨a1,a4,a5⟩
 ·show zdv x.2 (zcs x.1 (J.values.set d v))=none
  by_cases hkd:zdp x.1<=d
  ·rw[hrl x hx hkd];exact h.nob x hx hkd
  ·cases hm:zdv x.2 (zcs x.1 (J.values.set d v)) with
   |none=>rfl
   |some m =>
    have:=(zrr hstat (d+1)).2 ⟨x,hx,by omega,by show(zdv x.2 (zcs x.1 (J.values.set d v))).isSome=true;rw[hm];rfl⟩
    rw[hb] at this;cases this
 ·show(if d+1 < 5 then _ else _:List Nat).getD i 0=(J.values.set d v).getD i 0+1
  by_cases hi2:i=d
  ·subst hi2
   rw[hfd,zam,if_pos ⟨rfl,by omega⟩]
  ·rw[hfr i (by omega),zam,if_neg (by omega)];exact h.from i (by omega)
 ·show(J.values.set d v).getD i 0 < W
  by_cases hi2:i=d
  ·subst hi2
   rw[zam,if_pos ⟨rfl,by omega⟩];exact hW
  ·rw[zam,if_neg (by omega)];exact h.small i (by omega)
end Go.Proofs.YteampbddflhngaaGreat
