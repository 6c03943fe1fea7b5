import Derived.Test.YteampbddflhngabGreatO34

namespace Go.Proofs.YteampbddflhngabGreat
structure zf6 (r:zah):Prop where
 vars:r.vars<=5
 terms:∀ l∈r.plain,l.terms.length<=3
 plain:∀ l∈r.plain,∀ p,zdh l p=true->p < r.vars
 nots:∀ l∈r.nots,∀ p,zdh l p=true->p < r.vars
 head:∀ p,zdh r.head p=true->p < r.vars
 safe:∀ p,p < r.vars->∃ l∈r.plain,zdh l p=true
structure zd2 (r:zah) (Ts:List zad) (W:Nat):Prop where
 len:Ts.length=r.plain.length
 ok:∀(i:Nat) (l:zak) (T:zad),r.plain[i]?=some l->Ts[i]?=some T->zed T/\T.depth=zby (zbd l)/\T.width<=W
structure zit (r:zah) (Ts Ns:List zad) (J:zaw):Prop where
 head:J.head=r.head
 vars:J.vars=r.vars
 holds:J.holds=(List.range 5).map (zb3 r)
 backs:J.backs=(List.range 5).map fun p=>zec r (p:Nat)
 last:J.last=zec r r.vars
 bars:J.bars=(r.nots.zip Ns).map fun x=>⟨x.1,zds x.1,x.2⟩
 sides:J.sides.map (·.rows)=Ts
 vlen:J.values.length=5
 flen:J.from.length=5
theorem zf2(l:zak){x y:List Nat}(h:∀ p,zdh l p=true->x.getD p 0=y.getD p 0):zcs l x=zcs l y:=by
 have hc:∀ i,rowCell l x i=rowCell l y i:=by
  intro i
  unfold rowCell
  split
  ·rename_i hi
   unfold atT
   rw[show l.terms.getD i ⟨false,0,0⟩=l.terms[i] by simp[List.getD,hi]]
   split
   ·rename_i hv
    simp only[Bool.and_eq_true,decide_eq_true_eq] at hv
    exact h _ ((zfi l _).2 ⟨_,List.getElem_mem hi,hv.1,rfl⟩)
   ·rfl
  ·rfl
 unfold zcs
 rw[hc,hc,hc]
def yah(T:zad)(l:zak)(y:List Nat):Prop:=(zbd l=0->T.count≠0)/\(zbd l≠0->(zke T (zb7 l y 5)).isSome=true)
def zsq(r:zah)(Ts Ns:List zad)(y:List Nat):Prop:=(∀(i:Nat) (l:zak) (T:zad),r.plain[i]?=some l->Ts[i]?=some T->yah T l y)/\∀ x∈r.nots.zip Ns,zdz x.2 (zcs x.1 y)=none
theorem z1e{r:zah}{l:zak}(hl:∀ p,zdh l p=true->p < r.vars){d:Nat}(hd:r.vars<=d):zcg l d=zcg l r.vars:=by
 induction hd with
 |refl=>rfl
 |@step m h ih =>
  rw[zet,if_neg (fun q=>by have:=hl _ q;have:r.vars<=m:=h;omega),ih]
theorem z0u{r:zah}(hv:r.vars<=5){l:zak}(hl:∀ p,zdh l p=true->p < r.vars)(y:List Nat):zb7 l y 5=zb7 l y r.vars:=by
 unfold zb7
 rw[z1e hl hv]
def z81(r:zah)(J:zaw)(d:Nat):Prop:=∀(i:Nat) (l:zak) (s:zeo),r.plain[i]?=some l->J.sides[i]?=some s->s.nodes.length=3/\(∀ k,k<=(zcg l d).length->k < 3->goT s.rows 0 ((zb7 l J.values d).take k)=some (s.nodes.getD k 0))/\(goT s.rows 0 (zb7 l J.values d)).isSome=true
def yal(r:zah)(Ns:List zad)(vals:List Nat)(d:Nat):Prop:=∀ x∈r.nots.zip Ns,zds x.1<=d->zdz x.2 (zcs x.1 vals)=none
theorem ztv{r:zah}{d i lv:Nat}(h:(i,lv)∈zb3 r d):∃ l,r.plain[i]?=some l/\zdh l d=true/\lv=(zcg l d).length:=by
 unfold zb3 at h
 simp only[List.mem_filterMap,Option.map_eq_some_iff,Prod.mk.injEq] at h
 obtain⟨⟨l,j⟩,h1,lv',h2,h3,h4⟩:=h
 rw[zov] at h2
 split at h2
 ·rename_i hh
  simp only[Option.some.injEq] at h2
  have:=List.mem_zipIdx_iff_getElem?.1 h1
  simp only at this h3 hh h2
  subst h3
  exact⟨l,this,hh,by omega⟩
 ·cases h2
theorem holds_of{r:zah}{d i:Nat}{l:zak}(h:r.plain[i]?=some l)(hh:zdh l d=true):(i,(zcg l d).length)∈zb3 r d:=by
 unfold zb3
 simp only[List.mem_filterMap,Option.map_eq_some_iff,Prod.mk.injEq]
 refine⟨(l,i),List.mem_zipIdx_iff_getElem?.2 h,(zcg l d).length,?_,rfl,rfl⟩
 rw[zov,if_pos hh]
theorem zor(r:zah)(d:Nat):((zb3 r d).map (·.1)).Nodup:=by
 unfold zb3
 have key:∀(ls:List zak) (n:Nat),(((ls.zipIdx n).filterMap fun x=>(zbr x.1 d).map fun lv=>(x.2,lv)).map (·.1)).Nodup/\∀ i∈((ls.zipIdx n).filterMap fun x=>(zbr x.1 d).map fun lv=>(x.2,lv)).map (·.1),n<=i:=by
  intro ls
  induction ls with
  |nil=>intro n;simp
  |cons l ls ih =>
   intro n
   obtain⟨i1,i2⟩:=ih (n+1)
   rw[List.zipIdx_cons,List.filterMap_cons]
   cases hl:(zbr l d).map fun lv=>(n,lv) with
   |none=>exact⟨i1,fun i hi=>by have:=i2 i hi;omega⟩
   |some x =>
    have hx:x.1=n:=by
     simp only[Option.map_eq_some_iff] at hl
     obtain⟨a,_,rfl⟩:=hl
     rfl
    simp only[List.map_cons,List.nodup_cons,List.mem_cons]
    refine⟨⟨fun hm=>by have:=i2 _ hm;omega,i1⟩,?_⟩
    rintro i (rfl|hi)
    ·omega
    ·have:=i2 i hi;omega
 exact(key r.plain 0).1
def setDown(v lv:Nat)(s:zeo):zeo:=if lv+1 ≥ 3 then s else{ s with nodes:=s.nodes.set (lv+1) ((zax s.rows (s.nodes.getD lv 0) v).getD 0) }
theorem zzu{J:zaw}{v:Nat}{h:Nat × Nat}(hs:zcq J h=true):zep v J h={ J with sides:=J.sides.set h.1 (setDown v h.2 (J.sides.getD h.1 zeo.zero)) }:=by
 unfold zep setDown
 by_cases h3:h.2+1 ≥ 3
 ·rw[if_pos (Or.inr h3),if_pos h3]
  have hl:h.1 < J.sides.length:=by simp only[zcq,Bool.and_eq_true,decide_eq_true_eq] at hs;exact hs.1
  have:J.sides.set h.1 (J.sides.getD h.1 zeo.zero)=J.sides:=by
   rw[show J.sides.getD h.1 zeo.zero=J.sides[h.1] by simp[List.getD,hl]]
   exact List.set_getElem_self _
  rw[this]
 ·rw[if_neg (by rintro(q|q);rw[hs] at q;cases q;exact h3 q),if_neg h3]
theorem zqi(v:Nat):∀(hs:List (Nat × Nat)) (J:zaw),(hs.map (·.1)).Nodup->(∀ h∈hs,zcq J h=true)->∃ ss,hs.foldl (zep v) J={ J with sides:=ss }/\ss.length=J.sides.length/\∀ i s,J.sides[i]?=some s->ss[i]?=some (match hs.lookup i with|none=>s|some lv=>setDown v lv s)
 |[],J,_,_=>⟨J.sides,rfl,rfl,fun i s h=>by simpa using h⟩
 |(j,lv)::hs,J,hn,hst=>by
  simp only[List.foldl_cons]
  have h0:=hst (j,lv) (by simp)
  rw[zzu h0]
  simp only
  have hjl:j < J.sides.length:=by simp only[zcq,Bool.and_eq_true,decide_eq_true_eq] at h0;exact h0.1
  simp only[List.map_cons,List.nodup_cons] at hn
  obtain⟨ss,e1,e2,e3⟩:=zqi v hs { J with sides:=J.sides.set j (setDown v lv (J.sides.getD j zeo.zero)) } hn.2 (fun h hh=>by
   have:=hst h (by simp[hh])
   unfold zcq at this ⊢
   simpa using this)
  refine⟨ss,e1,by simpa using e2,fun i s hi=>?_⟩
  by_cases hij:i=j
  ·subst hij
   have hg:J.sides.getD i zeo.zero=s:=by simp[List.getD,hi]
   have:=e3 i (setDown v lv s) (by rw[hg];simp[hjl])
   rw[this]
   have hnone:hs.lookup i=none:=by
    rw[List.lookup_eq_none_iff]
    intro x hx
    have:x.1≠i:=by
     rintro rfl
     exact hn.1 (List.mem_map.2 ⟨x,hx,rfl⟩)
    simpa using fun q=>this q.symm
   rw[hnone]
   simp[List.lookup]
  ·have:=e3 i s (by simp only[List.getElem?_set,Ne.symm hij,if_false];exact hi)
   rw[this]
   have hb:(i == j)=false:=by simp[hij]
   simp[List.lookup,hb]
theorem z0i{hs:List (Nat × Nat)}{i lv:Nat}(hn:(hs.map (·.1)).Nodup)(hm:(i,lv)∈hs):hs.lookup i=some lv:=by
 induction hs with
 |nil=>cases hm
 |cons a hs ih =>
  obtain⟨j,m⟩:=a
  simp only[List.map_cons,List.nodup_cons] at hn
  rcases List.mem_cons.1 hm with e|hm2
  ·simp only[Prod.mk.injEq] at e
   obtain⟨rfl,rfl⟩:=e
   simp[List.lookup]
  ·have:i≠j:=by
    rintro rfl
    exact hn.1 (List.mem_map.2 ⟨(i,lv),hm2,rfl⟩)
   have hb:(i == j)=false:=by simp[this]
   simp only[List.lookup,hb]
   exact ih hn.2 hm2
theorem zwn{hs:List (Nat × Nat)}{i:Nat}(h:∀ lv,(i,lv)∉hs):hs.lookup i=none:=by
 rw[List.lookup_eq_none_iff]
 rintro⟨j,m⟩ hx
 have:i≠j:=by rintro rfl;exact h m hx
 simpa using this
structure JAt (r:zah) (Ts Ns:List zad) (W:Nat) (J:zaw) (d:Nat):Prop where
 stat:zit r Ts Ns J
 nodes:z81 r J d
 nob:yal r Ns J.values d
 «from» : ∀ i,i < d->J.from.getD i 0=J.values.getD i 0+1
 small:∀ i,i < d->J.values.getD i 0 < W
theorem zit.same{r:zah}{Ts Ns:List zad}{J J':zaw}(h:zit r Ts Ns J)(s:zk3 J J'):zit r Ts Ns J':=by
 rw[s];exact⟨h.head,h.vars,h.holds,h.backs,h.last,h.bars,h.sides,h.vlen,h.flen⟩
theorem JAt.same{r:zah}{Ts Ns:List zad}{W:Nat}{J J':zaw}{d:Nat}(h:JAt r Ts Ns W J d)(s:zk3 J J'):JAt r Ts Ns W J' d:=by
 refine⟨h.stat.same s,?_,?_,?_,?_⟩
 ·rw[s];exact h.nodes
 ·rw[s];exact h.nob
 ·rw[s];exact h.from
 ·rw[s];exact h.small
theorem JAt.back{r:zah}{Ts Ns:List zad}{W:Nat}{J:zaw}{d b:Nat}(h:JAt r Ts Ns W J d)(hb:b<=d):JAt r Ts Ns W J b:=by
 refine⟨h.stat,fun i l s hl hs=>?_,fun x hx hk=>h.nob x hx (by omega),fun i hi=>h.from i (by omega),fun i hi=>h.small i (by omega)⟩
 obtain⟨n1,n2,n3⟩:=h.nodes i l s hl hs
 have hle:(zcg l b).length<=(zcg l d).length:=(zsm l hb).length_le
 refine⟨n1,fun k hk h3=>?_,?_⟩
 ·rw[zjk l J.values hb,List.take_take,Nat.min_eq_left hk]
  exact n2 k (by omega) h3
 ·rw[zjk l J.values hb]
  have hsp:zb7 l J.values d=(zb7 l J.values d).take (zcg l b).length++(zb7 l J.values d).drop (zcg l b).length:=(List.take_append_drop _ _).symm
  rw[hsp,zfx] at n3
  cases hg:goT s.rows 0 ((zb7 l J.values d).take (zcg l b).length) with
  |none=>rw[hg] at n3;cases n3
  |some x=>rfl
theorem zit.side{r:zah}{Ts Ns:List zad}{J:zaw}(h:zit r Ts Ns J){i:Nat}{s:zeo}(hs:J.sides[i]?=some s):Ts[i]?=some s.rows:=by
 rw[← h.sides];simp[hs]
theorem zit.some{r:zah}{Ts Ns:List zad}{W:Nat}{J:zaw}(h:zit r Ts Ns J)(hf:zd2 r Ts W){i:Nat}{l:zak}(hl:r.plain[i]?=some l):∃ s,J.sides[i]?=some s:=by
 have h1:J.sides.length=r.plain.length:=by rw[← hf.len,← h.sides];simp
 have h2:i < r.plain.length:=(List.getElem?_eq_some_iff.1 hl).1
 exact⟨_,List.getElem?_eq_getElem (by omega)⟩
theorem zit.holdsAt{r:zah}{Ts Ns:List zad}{J:zaw}(h:zit r Ts Ns J){d:Nat}(hd:d < 5):J.holds.getD d []=zb3 r d:=by
 rw[h.holds];simp[List.getD,hd]
theorem JAt.hold{r:zah}{Ts Ns:List zad}{W:Nat}{J:zaw}{d:Nat}(h:JAt r Ts Ns W J d)(hr:zf6 r)(hf:zd2 r Ts W){x:Nat × Nat}(hx:x∈zb3 r d) :
  ∃ l s,r.plain[x.1]?=some l/\J.sides[x.1]?=some s/\zdh l d=true/\x.2=(zcg l d).length/\x.2 < 3/\zcq J x=true/\zed s.rows/\s.rows.width<=W/\∀ v,goT s.rows 0 (zb7 l J.values d++[v])=zic J x v:=by
 obtain⟨i,lv⟩:=x
 obtain⟨l,h1,h2,h3⟩:=ztv hx
 obtain⟨s,hs⟩:=h.stat.some hf h1
 have hlv:(zcg l (d+1)).length=lv+1:=by rw[zet,if_pos h2,h3];simp
 have h4:lv < 3:=by
  have:=zk0 l (d+1)
  have:=hr.terms l (List.mem_of_getElem? h1)
  omega
 have hil:i < J.sides.length:=(List.getElem?_eq_some_iff.1 hs).1
 obtain⟨t1,t2,t3⟩:=hf.ok i l s.rows h1 (h.stat.side hs)
 refine⟨l,s,h1,hs,h2,h3,h4,by simp[zcq,hil,h4],t1,t3,fun v=>?_⟩
 obtain⟨n1,n2,n3⟩:=h.nodes i l s h1 hs
 have:=n2 lv (by omega) h4
 rw[h3,show(zb7 l J.values d).take (zcg l d).length=zb7 l J.values d by rw[← zg5 l J.values d];exact List.take_length] at this
 rw[zfx,this]
 unfold zic
 simp only[List.getD,hs,Option.getD_some,Option.bind_some,goT,h3]
 cases zax s.rows _ v <;> rfl
theorem zr3{r:zah}{Ts Ns:List zad}{J:zaw}(h:zit r Ts Ns J)(k:Nat):zb4 J k=true↔∃ x∈r.nots.zip Ns,zds x.1=k/\(zdz x.2 (zcs x.1 J.values)).isSome=true:=by
 unfold zb4
 rw[h.bars,List.any_map,List.any_eq_true]
 simp
theorem JAt.take{r:zah}{Ts Ns:List zad}{W:Nat}{J:zaw}{d v:Nat}(h:JAt r Ts Ns W J d)(hr:zf6 r)(hf:zd2 r Ts W)(hd:d < r.vars)(hv:∀ x∈zb3 r d,(zic J x v).isSome=true)(hW:v < W) :
  (zf4 J d v).values=J.values.set d v/\(∀ i,i < d->(zf4 J d v).from.getD i 0=J.from.getD i 0)/\(zf4 J d v).from.getD d 0=v+1/\(d+1 < 5->(zf4 J d v).from.getD (d+1) 0=0)/\JAt r Ts Ns W (zf4 J d v) d/\(zb4 (zf4 J d v) (d+1)=false->JAt r Ts Ns W (zf4 J d v) (d+1)):=by
 have hv5:=hr.vars
 have hd5:d < 5:=by omega
 have hvl:=h.stat.vlen
 have hfl:=h.stat.flen
 unfold zf4
 rw[if_neg (by omega),h.stat.holdsAt hd5]
 obtain⟨ss,e1,e2,e3⟩:=zqi v (zb3 r d) { J with values:=J.values.set d v,«from»:=(if d+1 < 5 then(J.from.set d (v+1)).set (d+1) 0 else J.from.set d (v+1)) } (zor r d) (fun x hx=>by
  obtain⟨_,_,_,_,_,_,_,q,_⟩:=h.hold hr hf hx
  unfold zcq at q ⊢
  exact q)
 rw[e1]
 simp only at e2 e3 ⊢
 have hfr:∀ i,i < d->(if d+1 < 5 then(J.from.set d (v+1)).set (d+1) 0 else J.from.set d (v+1)).getD i 0=J.from.getD i 0:=by
  intro i hi
  split
  ·rw[zam,if_neg (by omega),zam,if_neg (by omega)]
  ·rw[zam,if_neg (by omega)]
 have hfd:(if d+1 < 5 then(J.from.set d (v+1)).set (d+1) 0 else J.from.set d (v+1)).getD d 0=v+1:=by
  split
  ·rw[zam,if_neg (by omega),zam,if_pos ⟨rfl,by omega⟩]
  ·rw[zam,if_pos ⟨rfl,by omega⟩]
 have hrows:ss.map (·.rows)=Ts:=by
  rw[← h.stat.sides]
  refine List.ext_getElem? fun i=>?_
  simp only[List.getElem?_map]
  cases hs:J.sides[i]? with
  |none =>
   have:J.sides.length<=i:=List.getElem?_eq_none_iff.1 hs
   rw[List.getElem?_eq_none (by omega)]
  |some s =>
   rw[e3 i s hs]
   simp only[Option.map_some,Option.some.injEq]
   cases (zb3 r d).lookup i with
   |none=>rfl
   |some lv=>simp only[setDown];split <;> rfl
 have hstat:zit r Ts Ns { J with sides:=ss,values:=J.values.set d v,«from»:=(if d+1 < 5 then(J.from.set d (v+1)).set (d+1) 0 else J.from.set d (v+1)) }:=⟨h.stat.head,h.stat.vars,h.stat.holds,h.stat.backs,h.stat.last,h.stat.bars,hrows,by simpa using hvl,by show(if d+1 < 5 then(J.from.set d (v+1)).set (d+1) 0 else J.from.set d (v+1)).length=5;split <;> simpa using hfl⟩
 have hlow:∀ l:zak,zb7 l (J.values.set d v) d=zb7 l J.values d:=fun l=>zil l fun p hp _=>by rw[zam,if_neg (by omega)]
 have hnodes:∀(i:Nat) (l:zak) (s s':zeo),r.plain[i]?=some l->J.sides[i]?=some s->ss[i]?=some s'->s'.nodes.length=3/\(∀ k,k<=(zcg l d).length->k < 3->goT s'.rows 0 ((zb7 l J.values d).take k)=some (s'.nodes.getD k 0))/\(goT s'.rows 0 (zb7 l J.values d)).isSome=true/\(∀ k,k<=(zcg l (d+1)).length->k < 3->goT s'.rows 0 ((zb7 l (J.values.set d v) (d+1)).take k)=some (s'.nodes.getD k 0))/\(goT s'.rows 0 (zb7 l (J.values.set d v) (d+1))).isSome=true:=by
  intro i l s s' hl hs hs'
  obtain⟨n1,n2,n3⟩:=h.nodes i l s hl hs
  rw[e3 i s hs] at hs'
  by_cases hh:zdh l d=true
  ·have hm:=holds_of hl hh
   rw[z0i (zor r d) hm] at hs'
   simp only[Option.some.injEq] at hs'
   obtain⟨l',s0,q1,q2,_,q4,q5,_,_,_,q9⟩:=h.hold hr hf hm
   simp only at q1 q2 q5
   rw[hl] at q1;rw[hs] at q2
   simp only[Option.some.injEq] at q1 q2
   subst q1;subst q2
   have hvv:=hv _ hm
   obtain⟨bb,hbb⟩:=Option.isSome_iff_exists.1 hvv
   have hgo:=q9 v
   rw[hbb] at hgo
   have hp:zb7 l (J.values.set d v) (d+1)=zb7 l J.values d++[v]:=by rw[zq7 l _ _ _ (by omega),if_pos hh]
   have hrow':s'.rows=s.rows:=by rw[← hs'];unfold setDown;split <;> rfl
   have hlen:(zb7 l J.values d).length=(zcg l d).length:=zg5 _ _ _
   have hnd:∀ k,k<=(zcg l d).length->s'.nodes.getD k 0=s.nodes.getD k 0:=by
    intro k hk
    rw[← hs'];unfold setDown;split
    ·rfl
    ·rw[zam,if_neg (by omega)]
   have hdn:zax s.rows (s.nodes.getD (zcg l d).length 0) v=some bb:=by
    unfold zic at hbb
    simpa [List.getD,hs] using hbb
   refine⟨by rw[← hs'];unfold setDown;split <;> simp[n1],fun k hk h3=>by rw[hrow',hnd k hk];exact n2 k hk h3,by rw[hrow'];exact n3,fun k hk h3=>?_,by rw[hrow',hp,hgo];rfl⟩
   rw[hrow',hp]
   rw[zet,if_pos hh,List.length_append,List.length_singleton] at hk
   by_cases hk2:k<=(zcg l d).length
   ·rw[List.take_append_of_le_length (by omega),hnd k hk2]
    exact n2 k hk2 h3
   ·have:k=(zcg l d).length+1:=by omega
    subst this
    rw[List.take_of_length_le (by simp[hlen]),hgo,← hs']
    unfold setDown
    rw[if_neg (by omega)]
    simp only
    rw[zam,if_pos ⟨rfl,by omega⟩,hdn]
    rfl
  ·have hno:∀ lv,(i,lv)∉zb3 r d:=fun lv hm=>by
    obtain⟨l',q1,q2,_⟩:=ztv hm
    rw[hl] at q1
    simp only[Option.some.injEq] at q1
    subst q1
    exact hh q2
   rw[zwn hno] at hs'
   simp only[Option.some.injEq] at hs'
   subst hs'
   have hp:zb7 l (J.values.set d v) (d+1)=zb7 l J.values d:=by rw[zq7 l _ _ _ (by omega),if_neg hh]
   have hvv:zcg l (d+1)=zcg l d:=by rw[zet,if_neg hh]
   exact⟨n1,n2,n3,by rw[hp,hvv];exact n2,by rw[hp];exact n3⟩
 have hside:∀(i:Nat) (l:zak) (s':zeo),r.plain[i]?=some l->ss[i]?=some s'->∃ s,J.sides[i]?=some s:=fun i l s' hl _=>h.stat.some hf hl
 have hrl:∀ x∈r.nots.zip Ns,zds x.1<=d->zcs x.1 (J.values.set d v)=zcs x.1 J.values:=fun x _ hk=>zf2 x.1 fun p hp=>by
  have:=zlm x.1 hp
  rw[zam,if_neg (by omega)]
 refine⟨trivial,hfr,hfd,fun h5=>?_,⟨hstat,fun i l s' hl hs'=>?_,fun x hx hk=>?_,fun i hi=>?_,fun i hi=>?_⟩,fun hb=>⟨hstat,fun i l s' hl hs'=>?_,fun x hx hk=>?_,fun i hi=>?_,fun i hi=>?_⟩⟩
 ·rw[if_pos h5,zam,if_pos ⟨rfl,by simp;omega⟩]
 ·obtain⟨s,hs⟩:=hside i l s' hl hs'
  obtain⟨a1,a2,a3,_,_⟩:=hnodes i l s s' hl hs hs'
  exact⟨a1,by rw[hlow];exact a2,by rw[hlow];exact a3⟩
 ·show zdz x.2 (zcs x.1 (J.values.set d v))=none
  rw[hrl x hx hk];exact h.nob x hx hk
 ·show(if d+1 < 5 then _ else _:List Nat).getD i 0=(J.values.set d v).getD i 0+1
  rw[hfr i hi,zam,if_neg (by omega)];exact h.from i hi
 ·show(J.values.set d v).getD i 0 < W
  rw[zam,if_neg (by omega)];exact h.small i hi
 ·obtain⟨s,hs⟩:=hside i l s' hl hs'
  obtain⟨a1,_,_,a4,a5⟩:=hnodes i l s s' hl hs hs'
  exact⟨a1,a4,a5⟩
 ·show zdz x.2 (zcs x.1 (J.values.set d v))=none
  by_cases hkd:zds x.1<=d
  ·rw[hrl x hx hkd];exact h.nob x hx hkd
  ·cases hm:zdz x.2 (zcs x.1 (J.values.set d v)) with
   |none=>rfl
   |some m =>
    have:=(zr3 hstat (d+1)).2 ⟨x,hx,by omega,by show(zdz x.2 (zcs x.1 (J.values.set d v))).isSome=true;rw[hm];rfl⟩
    rw[hb] at this;cases this
 ·show(if d+1 < 5 then _ else _:List Nat).getD i 0=(J.values.set d v).getD i 0+1
  by_cases hi2:i=d
  ·subst hi2
   rw[hfd,zam,if_pos ⟨rfl,by omega⟩]
  ·rw[hfr i (by omega),zam,if_neg (by omega)];exact h.from i (by omega)
 ·show(J.values.set d v).getD i 0 < W
  by_cases hi2:i=d
  ·subst hi2
   rw[zam,if_pos ⟨rfl,by omega⟩];exact hW
  ·rw[zam,if_neg (by omega)];exact h.small i (by omega)
def z99(d:Nat)(vals:List Nat)(f:Nat)(y:List Nat):Prop:=(∀ p,p < d->y.getD p 0=vals.getD p 0)/\f<=y.getD d 0∨∃ i,i < d/\(∀ p,p < i->y.getD p 0=vals.getD p 0)/\vals.getD i 0 < y.getD i 0
def Left(r:zah)(Ts Ns:List zad)(E:zaq->Prop)(d:Nat)(vals:List Nat)(f:Nat):Prop:=∀ y,zsq r Ts Ns y->E (zcs r.head y)∨z99 d vals f y
theorem z5p{l:zak}{d e:Nat}(hl:∀ p,zdh l p=true->p < d)(hd:d<=e):zcg l e=zcg l d:=by
 induction hd with
 |refl=>rfl
 |@step m h ih =>
  rw[zet,if_neg (fun q=>by have:=hl _ q;have:d<=m:=h;omega),ih]
def z8u(d:Nat)(vals y:List Nat):List Nat:=(List.range 5).map fun p=>if p < d then vals.getD p 0 else y.getD p 0
theorem zwq(d:Nat)(vals y:List Nat){p:Nat}(hp:p < 5):(z8u d vals y).getD p 0=if p < d then vals.getD p 0 else y.getD p 0:=by
 simp[z8u,List.getD,hp]
theorem z9k{T:zad}{a:Nat}{p q:zaq}(h:(goT T a (p++q)).isSome=true):(goT T a p).isSome=true:=by
 rw[zfx] at h
 cases hg:goT T a p with
 |none=>rw[hg] at h;cases h
 |some x=>rfl
theorem JAt.mix{r:zah}{Ts Ns:List zad}{W:Nat}{J:zaw}{d:Nat}(h:JAt r Ts Ns W J d)(hr:zf6 r)(hf:zd2 r Ts W)(hd:d<=r.vars){y:List Nat}(hy:zsq r Ts Ns y)(ha:∀ p:Nat,(p:Int)<=zec r (d:Nat)->y.getD p 0=J.values.getD p 0):zsq r Ts Ns (z8u d J.values y)/\zcs r.head (z8u d J.values y)=zcs r.head y:=by
 obtain⟨_,_,b3,b4,b5⟩:=zmf r (known:=(d:Nat)) (by omega)
 have hv5:=hr.vars
 have hlo:∀ {l:zak},(∀ p,zdh l p=true->p < r.vars)->(∀ p,zdh l p=true->p < d)->∀ p,zdh l p=true->(z8u d J.values y).getD p 0=J.values.getD p 0:=fun hl hk p hp=>by
  have:=hl p hp
  rw[zwq d _ _ (by omega),if_pos (hk p hp)]
 have hhi:∀ {l:zak},(∀ p,zdh l p=true->p < r.vars)->(∀ p,zdh l p=true->p < d->(p:Int)<=zec r (d:Nat))->∀ p,zdh l p=true->(z8u d J.values y).getD p 0=y.getD p 0:=fun hl hk p hp=>by
  have:=hl p hp
  rw[zwq d _ _ (by omega)]
  split
  ·rename_i hpd;exact(ha p (hk p hp hpd)).symm
  ·rfl
 refine⟨⟨fun i l T hl hT=>⟨fun h0=>(hy.1 i l T hl hT).1 h0,fun h0=>?_⟩,fun x hx=>?_⟩,zf2 _ (hhi hr.head fun p hp hk=>by have:=zr7 r.head (known:=((d:Nat):Int)) hp (by omega);omega)⟩
 ·have hlm:=List.mem_of_getElem? hl
  rcases zy3 (b4 l hlm) with hk|hk
  ·obtain⟨s,hs⟩:=h.stat.some hf hl
   have hrow:=h.stat.side hs
   rw[hT] at hrow
   simp only[Option.some.injEq] at hrow
   have e:zb7 l (z8u d J.values y) 5=zb7 l J.values d:=by
    rw[zil l (y:=J.values) fun p _ hp=>hlo (hr.plain l hlm) hk p hp]
    unfold zb7
    rw[z5p hk (by omega)]
   rw[e,hrow]
   exact(h.nodes i l s hl hs).2.2
  ·rw[zil l (y:=y) fun p _ hp=>hhi (hr.plain l hlm) hk p hp]
   exact(hy.1 i l T hl hT).2 h0
 ·have hlm:x.1∈r.nots:=(List.of_mem_zip hx).1
  rcases zy3 (b5 x.1 hlm) with hk|hk
  ·rw[zf2 x.1 (hlo (hr.nots x.1 hlm) hk)]
   exact h.nob x hx (zt3 x.1 hk)
  ·rw[zf2 x.1 (hhi (hr.nots x.1 hlm) hk)]
   exact hy.2 x hx
theorem JAt.sol{r:zah}{Ts Ns:List zad}{W:Nat}{J:zaw}{d:Nat}(h:JAt r Ts Ns W J d)(hr:zf6 r)(hf:zd2 r Ts W)(hd:d < r.vars){y:List Nat}(hy:zsq r Ts Ns y)(ha:∀ p,p < d->y.getD p 0=J.values.getD p 0):∀ x∈zb3 r d,(zic J x (y.getD d 0)).isSome=true:=by
 intro x hx
 obtain⟨l,s,h1,h2,h3,_,_,_,_,_,h9⟩:=h.hold hr hf hx
 have hv5:=hr.vars
 have hT:=h.stat.side h2
 have h0:zbd l≠0:=by
  rw[zef]
  intro q
  have:d∈zcg l 5:=(zh9 l 5 d).2 ⟨by omega,h3⟩
  rw[List.length_eq_zero_iff.1 q] at this
  cases this
 have hs:=(hy.1 x.1 l s.rows h1 hT).2 h0
 rw[← h9]
 have e:zb7 l J.values d++[y.getD d 0]=zb7 l y (d+1):=by
  have:zb7 l y d=zb7 l J.values d:=zil l fun p hp _=>ha p hp
  unfold zb7 at this ⊢
  rw[zet,if_pos h3,List.map_append,this]
  rfl
 rw[e,zjk l y (show d+1<=5 by omega)]
 unfold zke at hs
 rw[← List.take_append_drop (zcg l (d+1)).length (zb7 l y 5)] at hs
 exact z9k hs
def zzq(W:Nat):Nat->Nat
 |0=>1
 |j+1=>W * (1+zzq W j)+1
def zpv(W vars d f:Nat):Nat:=(W - f) * (1+zzq W (vars - d - 1))+1
def znf(W vars:Nat)(vals:List Nat):Nat->Nat
 |0=>0
 |d+1=>znf W vars vals d+zpv W vars d (vals.getD d 0+1)
def zgz(W vars d:Nat)(vals:List Nat)(f:Nat):Nat:=znf W vars vals d+if d < vars then zpv W vars d f else 1
theorem zoh(W vars:Nat){x y:List Nat}:∀ d,(∀ p,p < d->x.getD p 0=y.getD p 0)->znf W vars x d=znf W vars y d
 |0,_=>rfl
 |d+1,h=>by simp only[znf];rw[zoh W vars d (fun p hp=>h p (by omega)),h d (by omega)]
theorem zzs(W vars:Nat)(vals:List Nat){a b:Nat}(h:a<=b):znf W vars vals a<=znf W vars vals b:=by
 induction h with
 |refl=>exact Nat.le_refl _
 |step h ih=>simp only[znf];omega
theorem zzr{W vars d f v:Nat}{vals:List Nat}(hd:d < vars)(hl:d < vals.length)(hf:f<=v)(hv:v < W):zgz W vars (d+1) (vals.set d v) 0 < zgz W vars d vals f/\zgz W vars d (vals.set d v) (v+1) < zgz W vars d vals f:=by
 have e1:znf W vars (vals.set d v) d=znf W vars vals d:=zoh W vars d fun p hp=>by rw[zam,if_neg (by omega)]
 have e2:(vals.set d v).getD d 0=v:=by rw[zam,if_pos ⟨rfl,hl⟩]
 have e3:(if d+1 < vars then zpv W vars (d+1) 0 else 1)=zzq W (vars - d - 1):=by
  split
  ·obtain⟨j,hj⟩:∃ j,vars - d - 1=j+1:=⟨vars - d - 2,by omega⟩
   rw[hj]
   unfold zpv
   rw[show vars - (d+1) - 1=j by omega,Nat.sub_zero]
   rfl
  ·rw[show vars - d - 1=0 by omega];rfl
 have e4:zpv W vars d f=zpv W vars d (v+1)+(v+1 - f) * (1+zzq W (vars - d - 1)):=by
  unfold zpv
  rw[show W - f=(W - (v+1))+(v+1 - f) by omega,Nat.add_mul]
  omega
 have e5:1 * (1+zzq W (vars - d - 1))<=(v+1 - f) * (1+zzq W (vars - d - 1)):=Nat.mul_le_mul_right _ (by omega)
 refine⟨?_,?_⟩
 ·unfold zgz
  rw[if_pos hd,e3]
  simp only[znf]
  rw[e1,e2]
  omega
 ·unfold zgz
  rw[if_pos hd,if_pos hd,e1]
  omega
theorem zth(W vars d:Nat)(vals:List Nat)(f:Nat):1<=zgz W vars d vals f:=by
 unfold zgz
 split
 ·unfold zpv;omega
 ·omega
theorem zqe{W vars d b f:Nat}{vals:List Nat}(hd:d<=vars)(hb:b < d):zgz W vars b vals (vals.getD b 0+1) < zgz W vars d vals f:=by
 have e1:zgz W vars b vals (vals.getD b 0+1)=znf W vars vals (b+1):=by
  unfold zgz;rw[if_pos (by omega)];rfl
 have e2:=zzs W vars vals (show b+1<=d by omega)
 have e3:1<=if d < vars then zpv W vars d f else 1:=by
  split
  ·unfold zpv;omega
  ·omega
 rw[e1]
 unfold zgz
 omega
def z6c(r:zah)(Ts Ns:List zad)(W:Nat)(E:zaq->Prop)(M:Nat)(J':zaw):Bool->Prop
 |true=>JAt r Ts Ns W J' r.vars/\Left r Ts Ns E r.vars J'.values 0/\zgz W r.vars r.vars J'.values 0<=M
 |false=>(∀ y,zsq r Ts Ns y->E (zcs r.head y))/\zit r Ts Ns J'
theorem zit.ok{r:zah}{Ts Ns:List zad}{W:Nat}{J:zaw}(h:zit r Ts Ns J)(hf:zd2 r Ts W):zvu J:=by
 intro i
 cases hs:J.sides[i]? with
 |none =>
  have:J.sides.getD i zeo.zero=zeo.zero:=by simp[List.getD,hs]
  rw[this]
  intro a ha
  simp[zeo.zero] at ha
 |some s =>
  have:J.sides.getD i zeo.zero=s:=by simp[List.getD,hs]
  rw[this]
  have hT:=h.side hs
  have hi:i < r.plain.length:=by rw[← hf.len];exact(List.getElem?_eq_some_iff.1 hT).1
  obtain⟨⟨pth,hinv⟩,_⟩:=(hf.ok i _ _ (List.getElem?_eq_getElem hi) hT).1
  exact hinv.node
theorem zxa{r:zah}{Ts Ns:List zad}{W:Nat}(hr:zf6 r)(hf:zd2 r Ts W)(E:zaq->Prop)(A:Nat)(hA:W * (r.plain.length+1)+r.plain.length<=A) :
  ∀(n:Nat) (J:zaw) (d f:Nat),JAt r Ts Ns W J d->d<=r.vars->(d < r.vars->J.from.getD d 0=f)->Left r Ts Ns E d J.values f->zgz W r.vars d J.values f+A < n->∃ J' b,zfb n J (d:Nat)=some (J',b)/\z6c r Ts Ns W E (zgz W r.vars d J.values f) J' b:=by
 intro n
 induction n with
 |zero=>intro J d f _ _ _ _ h;omega
 |succ n ih =>
  intro J d f h hd hfr hL hn
  have hv5:=hr.vars
  have hpos:=zth W r.vars d J.values f
  unfold zfb
  have hjv:=h.stat.vars
  by_cases hdv:d < r.vars
  ·rw[if_pos ⟨by omega,by rw[hjv];omega,by omega⟩]
   simp only[Int.toNat_natCast]
   have hhold:=h.stat.holdsAt (show d < 5 by omega)
   have hne:J.holds.getD d []≠[]:=by
    rw[hhold]
    obtain⟨l,hl1,hl2⟩:=hr.safe d hdv
    obtain⟨i,hi,rfl⟩:=List.getElem_of_mem hl1
    intro q
    have:=holds_of (List.getElem?_eq_getElem hi) hl2
    rw[q] at this
    cases this
   have hlen:(zb3 r d).length<=r.plain.length:=by
    unfold zb3
    refine Nat.le_trans (List.length_filterMap_le _ _) ?_
    simp
   have hsz:W * ((zb3 r d).length+1)+(zb3 r d).length<=A:=by
    have:W * ((zb3 r d).length+1)<=W * (r.plain.length+1):=Nat.mul_le_mul_left _ (by omega)
    omega
   obtain⟨J1,res,a1,a2,a3⟩:=zvy W J d (J.from.getD d 0) n (by omega) (h.stat.ok hf) hne (by
    rw[hhold]
    intro x hx
    obtain⟨_,_,_,_,_,_,_,q,_⟩:=h.hold hr hf hx
    exact q) (by
    rw[hhold]
    intro x hx v hv
    obtain⟨l,s,_,q2,_,_,_,_,_,q8,_⟩:=h.hold hr hf hx
    unfold zic at hv
    obtain⟨b,hb⟩:=Option.isSome_iff_exists.1 hv
    have:=(zg1 hb).2
    rw[show J.sides.getD x.1 zeo.zero=s by simp[List.getD,q2]] at this
    omega) (by rw[hhold];omega)
   rw[hhold] at a3
   rw[hfr hdv] at a1 a3
   rw[hfr hdv,a1]
   have h1:=h.same a2
   have hvals:J1.values=J.values:=by rw[a2]
   have hfrom:J1.from=J.from:=by rw[a2]
   have hold1:∀ x v,zic J1 x v=zic J x v:=fun x v=>zz4 a2 x v
   cases res with
   |none =>
    simp only
    have hbk:J1.backs.getD d 0=zec r (d:Nat):=by rw[h1.stat.backs];simp[List.getD,show d < 5 by omega]
    rw[hbk]
    obtain⟨b1,b2,b3,b4,b5⟩:=zmf r (known:=((d:Nat):Int)) (by omega)
    have key:∀ y,zsq r Ts Ns y->(∀ p:Nat,(p:Int)<=zec r (d:Nat)->y.getD p 0=J.values.getD p 0)->E (zcs r.head y):=by
     intro y hy ha
     obtain⟨m1,m2⟩:=h.mix hr hf hd hy ha
     have hlow:∀ p,p < d->(z8u d J.values y).getD p 0=J.values.getD p 0:=fun p hp=>by rw[zwq d _ _ (by omega),if_pos hp]
     rw[← m2]
     rcases hL _ m1 with q|⟨_,q⟩|⟨i,q1,_,q3⟩
     ·exact q
     ·obtain⟨x,hx,hx2⟩:=a3 _ q
      have:=h.sol hr hf hdv m1 hlow x hx
      rw[hx2] at this
      cases this
     ·rw[hlow i q1] at q3;omega
    by_cases hneg:zec r (d:Nat) < 0
    ·have hbm:zec r (d:Nat)=-1:=by omega
     rw[hbm]
     cases n with
     |zero=>omega
     |succ n =>
      refine⟨J1,false,?_,?_,h1.stat⟩
      ·unfold zfb
       rw[if_neg (by omega)]
       have:¬ ((-1:Int) ≥ (J1.vars:Int)):=by omega
       simp[this]
      ·intro y hy
       exact key y hy fun p hp=>by omega
    ·obtain⟨b,hb⟩:∃ b:Nat,zec r (d:Nat)=(b:Int):=⟨(zec r (d:Nat)).toNat,by omega⟩
     rw[hb] at key b1 ⊢
     have hbd:b < d:=by omega
     have hM:=zqe (W:=W) (vars:=r.vars) (f:=f) (vals:=J.values) hd hbd
     obtain⟨J',bb,s1,s2⟩:=ih J1 b (J.values.getD b 0+1) (h1.back (by omega)) (by omega) (fun _=>by rw[hfrom,h.from b hbd]) (by
      rw[hvals]
      intro y hy
      rcases hL y hy with q|⟨q1,q2⟩|⟨i,q1,q2,q3⟩
      ·exact Or.inl q
      ·exact Or.inl (key y hy fun p hp=>q1 p (by omega))
      ·by_cases hib:i<=b
       ·refine Or.inr ?_
        by_cases hib2:i=b
        ·subst hib2
         exact Or.inl ⟨q2,by omega⟩
        ·exact Or.inr ⟨i,by omega,q2,q3⟩
       ·exact Or.inl (key y hy fun p hp=>q2 p (by omega))) (by rw[hvals];omega)
     refine⟨J',bb,s1,?_⟩
     rw[hvals] at s2
     cases bb with
     |true=>exact⟨s2.1,s2.2.1,by have:=s2.2.2;omega⟩
     |false=>exact s2
   |some v =>
    simp only
    obtain⟨c1,c2,c3⟩:=a3
    have hvW:v < W:=by
     obtain⟨x,hx⟩:=List.exists_mem_of_ne_nil _ (hhold ▸ hne)
     obtain⟨l,s,_,q2,_,_,_,_,_,q8,_⟩:=h.hold hr hf hx
     have hv:=c2 x hx
     unfold zic at hv
     obtain⟨b,hb⟩:=Option.isSome_iff_exists.1 hv
     have:=(zg1 hb).2
     rw[show J.sides.getD x.1 zeo.zero=s by simp[List.getD,q2]] at this
     omega
    obtain⟨t1,t2,t3,t4,t5,t6⟩:=h1.take hr hf hdv (v:=v) (fun x hx=>by rw[hold1];exact c2 x hx) hvW
    rw[hvals] at t1
    have hvl:d < J.values.length:=by rw[h.stat.vlen];omega
    obtain⟨m1,m2⟩:=zzr (W:=W) (vars:=r.vars) (f:=f) (vals:=J.values) hdv hvl c1 hvW
    have hnosol:∀ y,zsq r Ts Ns y->(∀ p,p < d->y.getD p 0=J.values.getD p 0)->f<=y.getD d 0->v<=y.getD d 0:=by
     intro y hy ha hq
     false_or_by_contra
     rename_i hlt
     obtain⟨x,hx,hx2⟩:=c3 (y.getD d 0) hq (by omega)
     have:=h.sol hr hf hdv hy ha x hx
     rw[hx2] at this
     cases this
    have hset:∀ p,p < d->(J.values.set d v).getD p 0=J.values.getD p 0:=fun p hp=>by rw[zam,if_neg (by omega)]
    have hsetd:(J.values.set d v).getD d 0=v:=by rw[zam,if_pos ⟨rfl,hvl⟩]
    by_cases hb:zb4 (zf4 J1 d v) (d+1)=true
    ·rw[if_pos hb]
     obtain⟨x,hx,hk,hm⟩:=(zr3 t5.stat (d+1)).1 hb
     rw[t1] at hm
     obtain⟨J',bb,s1,s2⟩:=ih (zf4 J1 d v) d (v+1) t5 hd (fun _=>t3) (by
      rw[t1]
      intro y hy
      rcases hL y hy with q|⟨q1,q2⟩|⟨i,q1,q2,q3⟩
      ·exact Or.inl q
      ·have hge:=hnosol y hy q1 q2
       by_cases hyv:y.getD d 0=v
       ·have:=hy.2 x hx
        rw[zf2 x.1 (y:=J.values.set d v) fun p hp=>?_] at this
        ·rw[this] at hm;cases hm
        ·have hpk:=zlm x.1 hp
         by_cases hpd:p=d
         ·rw[hpd,hsetd,hyv]
         ·rw[hset p (by omega),q1 p (by omega)]
       ·exact Or.inr (Or.inl ⟨fun p hp=>by rw[hset p hp];exact q1 p hp,by omega⟩)
      ·exact Or.inr (Or.inr ⟨i,q1,fun p hp=>by rw[hset p (by omega)];exact q2 p hp,by rw[hset i q1];exact q3⟩)) (by rw[t1];omega)
     refine⟨J',bb,s1,?_⟩
     rw[t1] at s2
     cases bb with
     |true=>exact⟨s2.1,s2.2.1,by have:=s2.2.2;omega⟩
     |false=>exact s2
    ·rw[if_neg hb]
     have hb:zb4 (zf4 J1 d v) (d+1)=false:=by simpa using hb
     have e:((d:Nat):Int)+1=((d+1:Nat):Int):=by omega
     rw[e]
     obtain⟨J',bb,s1,s2⟩:=ih (zf4 J1 d v) (d+1) 0 (t6 hb) (by omega) (fun _=>t4 (by omega)) (by
      rw[t1]
      intro y hy
      rcases hL y hy with q|⟨q1,q2⟩|⟨i,q1,q2,q3⟩
      ·exact Or.inl q
      ·have hge:=hnosol y hy q1 q2
       by_cases hyv:y.getD d 0=v
       ·refine Or.inr (Or.inl ⟨fun p hp=>?_,Nat.zero_le _⟩)
        by_cases hpd:p=d
        ·rw[hpd,hsetd,hyv]
        ·rw[hset p (by omega)];exact q1 p (by omega)
       ·exact Or.inr (Or.inr ⟨d,by omega,fun p hp=>by rw[hset p hp];exact q1 p hp,by rw[hsetd];omega⟩)
      ·exact Or.inr (Or.inr ⟨i,by omega,fun p hp=>by rw[hset p (by omega)];exact q2 p hp,by rw[hset i q1];exact q3⟩)) (by rw[t1];omega)
     refine⟨J',bb,s1,?_⟩
     rw[t1] at s2
     cases bb with
     |true=>exact⟨s2.1,s2.2.1,by have:=s2.2.2;omega⟩
     |false=>exact s2
  ·have hdd:d=r.vars:=by omega
   subst hdd
   rw[if_neg (by rw[hjv];omega)]
   refine⟨J,true,by simp[hjv],h,?_,?_⟩
   ·intro y hy
    rcases hL y hy with q|⟨q1,_⟩|q
    ·exact Or.inl q
    ·exact Or.inr (Or.inl ⟨q1,Nat.zero_le _⟩)
    ·exact Or.inr (Or.inr q)
   ·unfold zgz;rw[if_neg hdv,if_neg hdv];exact Nat.le_refl _
end Go.Proofs.YteampbddflhngabGreat
