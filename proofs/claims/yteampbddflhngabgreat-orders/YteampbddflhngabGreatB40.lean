import Derived.Test.YteampbddflhngabGreatB39

namespace Go.Proofs.YteampbddflhngabGreat
structure JAt(r:PRule)(Ts Ns:List PTrie)(W:Nat)(J:PJoin)(d:Nat):Prop where
 stat:JStat r Ts Ns J
 nodes:NodesAt r J d
 nob:NoBar r Ns J.values d
 «from» : ∀ i,i < d->J.from.getD i 0=J.values.getD i 0+1
 small:∀ i,i < d->J.values.getD i 0 < W
theorem JStat.same{r:PRule}{Ts Ns:List PTrie}{J J':PJoin}(h:JStat r Ts Ns J)(s:SameJ J J'):JStat r Ts Ns J':=by
 rw [s];exact⟨h.head,h.vars,h.holds,h.backs,h.last,h.bars,h.sides,h.vlen,h.flen⟩
theorem JAt.same{r:PRule}{Ts Ns:List PTrie}{W:Nat}{J J':PJoin}{d:Nat}(h:JAt r Ts Ns W J d)(s:SameJ J J'):JAt r Ts Ns W J' d:=by
 refine⟨h.stat.same s,?_,?_,?_,?_⟩
 ·rw [s];exact h.nodes
 ·rw [s];exact h.nob
 ·rw [s];exact h.from
 ·rw [s];exact h.small
theorem JAt.back{r:PRule}{Ts Ns:List PTrie}{W:Nat}{J:PJoin}{d b:Nat}(h:JAt r Ts Ns W J d)(hb:b<=d):JAt r Ts Ns W J b:=by
 refine⟨h.stat,fun i l s hl hs=>?_,fun x hx hk=>h.nob x hx(by omega),fun i hi=>h.from i(by omega),fun i hi=>h.small i(by omega)⟩
 obtain⟨n1,n2,n3⟩:=h.nodes i l s hl hs
 have hle:(varsL l b).length<=(varsL l d).length:=(varsL_le l hb).length_le
 refine⟨n1,fun k hk h3=>?_,?_⟩
 ·rw [projL_prefix l J.values hb,List.take_take,Nat.min_eq_left hk]
  exact n2 k(by omega) h3
 ·rw [projL_prefix l J.values hb]
  have hsp:projL l J.values d=(projL l J.values d).take(varsL l b).length++(projL l J.values d).drop(varsL l b).length:=(List.take_append_drop _ _).symm
  rw [hsp,goT_append] at n3
  cases hg:goT s.rows 0((projL l J.values d).take(varsL l b).length) with
  |none=>rw [hg] at n3;cases n3
  |some x=>rfl
theorem JStat.side{r:PRule}{Ts Ns:List PTrie}{J:PJoin}(h:JStat r Ts Ns J){i:Nat}{s:PSide}(hs:J.sides[i]?=some s):Ts[i]?=some s.rows:=by
 rw [← h.sides];simp [hs]
theorem JStat.some{r:PRule}{Ts Ns:List PTrie}{W:Nat}{J:PJoin}(h:JStat r Ts Ns J)(hf:SidesFine r Ts W){i:Nat}{l:PRLit}(hl:r.plain[i]?=some l):∃ s,J.sides[i]?=some s:=by
 have h1:J.sides.length=r.plain.length:=by rw [← hf.len,← h.sides];simp
 have h2:i < r.plain.length:=(List.getElem?_eq_some_iff.1 hl).1
 exact⟨_,List.getElem?_eq_getElem(by omega)⟩
theorem JStat.holdsAt{r:PRule}{Ts Ns:List PTrie}{J:PJoin}(h:JStat r Ts Ns J){d:Nat}(hd:d < 5):J.holds.getD d []=holdsJ r d:=by
 rw [h.holds];simp [List.getD,hd]
theorem JAt.hold{r:PRule}{Ts Ns:List PTrie}{W:Nat}{J:PJoin}{d:Nat}(h:JAt r Ts Ns W J d)(hr:RuleFine r)(hf:SidesFine r Ts W){x:Nat × Nat}(hx:x∈holdsJ r d) :
  ∃ l s,r.plain[x.1]?=some l/\J.sides[x.1]?=some s/\hasL l d=true/\x.2=(varsL l d).length/\x.2 < 3/\standsJ J x=true/\TrieOK s.rows/\s.rows.width<=W/\∀ v,goT s.rows 0(projL l J.values d++[v])=holdD J x v:=by
 obtain⟨i,lv⟩:=x
 obtain⟨l,h1,h2,h3⟩:=holds_mem hx
 obtain⟨s,hs⟩:=h.stat.some hf h1
 have hlv:(varsL l(d+1)).length=lv+1:=by rw [varsL_succ,if_pos h2,h3];simp
 have h4:lv < 3:=by
  have:=varsL_terms l(d+1)
  have:=hr.terms l(List.mem_of_getElem? h1)
  omega
 have hil:i < J.sides.length:=(List.getElem?_eq_some_iff.1 hs).1
 obtain⟨t1,t2,t3⟩:=hf.ok i l s.rows h1(h.stat.side hs)
 refine⟨l,s,h1,hs,h2,h3,h4,by simp [standsJ,hil,h4],t1,t3,fun v=>?_⟩
 obtain⟨n1,n2,n3⟩:=h.nodes i l s h1 hs
 have:=n2 lv(by omega) h4
 rw [h3,show(projL l J.values d).take(varsL l d).length=projL l J.values d by rw [← projL_len l J.values d];exact List.take_length] at this
 rw [goT_append,this]
 unfold holdD
 simp only [List.getD,hs,Option.getD_some,Option.bind_some,goT,h3]
 cases downP s.rows _ v <;> rfl
theorem bars_eq{r:PRule}{Ts Ns:List PTrie}{J:PJoin}(h:JStat r Ts Ns J)(k:Nat):barredJ J k=true↔∃ x∈r.nots.zip Ns,knownL x.1=k/\(markP x.2(rowL x.1 J.values)).isSome=true:=by
 unfold barredJ
 rw [h.bars,List.any_map,List.any_eq_true]
 simp
theorem JAt.take{r:PRule}{Ts Ns:List PTrie}{W:Nat}{J:PJoin}{d v:Nat}(h:JAt r Ts Ns W J d)(hr:RuleFine r)(hf:SidesFine r Ts W)(hd:d < r.vars)(hv:∀ x∈holdsJ r d,(holdD J x v).isSome=true)(hW:v < W) :
  (takeJ J d v).values=J.values.set d v/\(∀ i,i < d->(takeJ J d v).from.getD i 0=J.from.getD i 0)/\(takeJ J d v).from.getD d 0=v+1/\(d+1 < 5->(takeJ J d v).from.getD(d+1) 0=0)/\JAt r Ts Ns W(takeJ J d v) d/\(barredJ(takeJ J d v)(d+1)=false->JAt r Ts Ns W(takeJ J d v)(d+1)):=by
 have hv5:=hr.vars
 have hd5:d < 5:=by omega
 have hvl:=h.stat.vlen
 have hfl:=h.stat.flen
 unfold takeJ
 rw [if_neg(by omega),h.stat.holdsAt hd5]
 obtain⟨ss,e1,e2,e3⟩:=downs_spec v(holdsJ r d){ J with values:=J.values.set d v,«from»:=(if d+1 < 5 then(J.from.set d(v+1)).set(d+1) 0 else J.from.set d(v+1)) }(holds_nodup r d)(fun x hx=>by
  obtain⟨_,_,_,_,_,_,_,q,_⟩:=h.hold hr hf hx
  unfold standsJ at q ⊢
  exact q)
 rw [e1]
 simp only at e2 e3 ⊢
 have hfr:∀ i,i < d->(if d+1 < 5 then(J.from.set d(v+1)).set(d+1) 0 else J.from.set d(v+1)).getD i 0=J.from.getD i 0:=by
  intro i hi
  split
  ·rw [getD_set_nat,if_neg(by omega),getD_set_nat,if_neg(by omega)]
  ·rw [getD_set_nat,if_neg(by omega)]
 have hfd:(if d+1 < 5 then(J.from.set d(v+1)).set(d+1) 0 else J.from.set d(v+1)).getD d 0=v+1:=by
  split
  ·rw [getD_set_nat,if_neg(by omega),getD_set_nat,if_pos⟨rfl,by omega⟩]
  ·rw [getD_set_nat,if_pos⟨rfl,by omega⟩]
 have hrows:ss.map(·.rows)=Ts:=by
  rw [← h.stat.sides]
  refine List.ext_getElem? fun i=>?_
  simp only [List.getElem?_map]
  cases hs:J.sides[i]? with
  |none =>
   have:J.sides.length<=i:=List.getElem?_eq_none_iff.1 hs
   rw [List.getElem?_eq_none(by omega)]
  |some s =>
   rw [e3 i s hs]
   simp only [Option.map_some,Option.some.injEq]
   cases(holdsJ r d).lookup i with
   |none=>rfl
   |some lv=>simp only [setDown];split <;> rfl
 have hstat:JStat r Ts Ns{ J with sides:=ss,values:=J.values.set d v,«from»:=(if d+1 < 5 then(J.from.set d(v+1)).set(d+1) 0 else J.from.set d(v+1)) }:=⟨h.stat.head,h.stat.vars,h.stat.holds,h.stat.backs,h.stat.last,h.stat.bars,hrows,by simpa using hvl,by show(if d+1 < 5 then(J.from.set d(v+1)).set(d+1) 0 else J.from.set d(v+1)).length=5;split <;> simpa using hfl⟩
 have hlow:∀ l:PRLit,projL l(J.values.set d v) d=projL l J.values d:=fun l=>projL_congr l fun p hp _=>by rw [getD_set_nat,if_neg(by omega)]
 have hnodes:∀ (i:Nat)(l:PRLit)(s s':PSide),r.plain[i]?=some l->J.sides[i]?=some s->ss[i]?=some s'->s'.nodes.length=3/\(∀ k,k<=(varsL l d).length->k < 3->goT s'.rows 0((projL l J.values d).take k)=some(s'.nodes.getD k 0))/\(goT s'.rows 0(projL l J.values d)).isSome=true/\(∀ k,k<=(varsL l(d+1)).length->k < 3->goT s'.rows 0((projL l(J.values.set d v)(d+1)).take k)=some(s'.nodes.getD k 0))/\(goT s'.rows 0(projL l(J.values.set d v)(d+1))).isSome=true:=by
  intro i l s s' hl hs hs'
  obtain⟨n1,n2,n3⟩:=h.nodes i l s hl hs
  rw [e3 i s hs] at hs'
  by_cases hh:hasL l d=true
  ·have hm:=holds_of hl hh
   rw [lookup_mem(holds_nodup r d) hm] at hs'
   simp only [Option.some.injEq] at hs'
   obtain⟨l',s0,q1,q2,_,q4,q5,_,_,_,q9⟩:=h.hold hr hf hm
   simp only at q1 q2 q5
   rw [hl] at q1;rw [hs] at q2
   simp only [Option.some.injEq] at q1 q2
   subst q1;subst q2
   have hvv:=hv _ hm
   obtain⟨bb,hbb⟩:=Option.isSome_iff_exists.1 hvv
   have hgo:=q9 v
   rw [hbb] at hgo
   have hp:projL l(J.values.set d v)(d+1)=projL l J.values d++[v]:=by rw [projL_succ l _ _ _(by omega),if_pos hh]
   have hrow':s'.rows=s.rows:=by rw [← hs'];unfold setDown;split <;> rfl
   have hlen:(projL l J.values d).length=(varsL l d).length:=projL_len _ _ _
   have hnd:∀ k,k<=(varsL l d).length->s'.nodes.getD k 0=s.nodes.getD k 0:=by
    intro k hk
    rw [← hs'];unfold setDown;split
    ·rfl
    ·rw [getD_set_nat,if_neg(by omega)]
   have hdn:downP s.rows(s.nodes.getD(varsL l d).length 0) v=some bb:=by
    unfold holdD at hbb
    simpa [List.getD,hs] using hbb
   refine⟨by rw [← hs'];unfold setDown;split <;> simp [n1],fun k hk h3=>by rw [hrow',hnd k hk];exact n2 k hk h3,by rw [hrow'];exact n3,fun k hk h3=>?_,by rw [hrow',hp,hgo];rfl⟩
   rw [hrow',hp]
   rw [varsL_succ,if_pos hh,List.length_append,List.length_singleton] at hk
   by_cases hk2:k<=(varsL l d).length
   ·rw [List.take_append_of_le_length(by omega),hnd k hk2]
    exact n2 k hk2 h3
   ·have:k=(varsL l d).length+1:=by omega
    subst this
    rw [List.take_of_length_le(by simp [hlen]),hgo,← hs']
    unfold setDown
    rw [if_neg(by omega)]
    simp only
    rw [getD_set_nat,if_pos⟨rfl,by omega⟩,hdn]
    rfl
  ·have hno:∀ lv,(i,lv)∉holdsJ r d:=fun lv hm=>by
    obtain⟨l',q1,q2,_⟩:=holds_mem hm
    rw [hl] at q1
    simp only [Option.some.injEq] at q1
    subst q1
    exact hh q2
   rw [lookup_none hno] at hs'
   simp only [Option.some.injEq] at hs'
   subst hs'
   have hp:projL l(J.values.set d v)(d+1)=projL l J.values d:=by rw [projL_succ l _ _ _(by omega),if_neg hh]
   have hvv:varsL l(d+1)=varsL l d:=by rw [varsL_succ,if_neg hh]
   exact⟨n1,n2,n3,by rw [hp,hvv];exact n2,by rw [hp];exact n3⟩
 have hside:∀ (i:Nat)(l:PRLit)(s':PSide),r.plain[i]?=some l->ss[i]?=some s'->∃ s,J.sides[i]?=some s:=fun i l s' hl _=>h.stat.some hf hl
 have hrl:∀ x∈r.nots.zip Ns,knownL x.1<=d->rowL x.1(J.values.set d v)=rowL x.1 J.values:=fun x _ hk=>rowL_congr x.1 fun p hp=>by
  have:=knownL_gt x.1 hp
  rw [getD_set_nat,if_neg(by omega)]
 refine⟨trivial,hfr,hfd,fun h5=>?_,⟨hstat,fun i l s' hl hs'=>?_,fun x hx hk=>?_,fun i hi=>?_,fun i hi=>?_⟩,fun hb=>⟨hstat,fun i l s' hl hs'=>?_,fun x hx hk=>?_,fun i hi=>?_,fun i hi=>?_⟩⟩
 ·rw [if_pos h5,getD_set_nat,if_pos⟨rfl,by simp;omega⟩]
 ·obtain⟨s,hs⟩:=hside i l s' hl hs'
  obtain⟨a1,a2,a3,_,_⟩:=hnodes i l s s' hl hs hs'
  exact⟨a1,by rw [hlow];exact a2,by rw [hlow];exact a3⟩
 ·show markP x.2(rowL x.1(J.values.set d v))=none
  rw [hrl x hx hk];exact h.nob x hx hk
 ·show(if d+1 < 5 then _ else _:List Nat).getD i 0=(J.values.set d v).getD i 0+1
  rw [hfr i hi,getD_set_nat,if_neg(by omega)];exact h.from i hi
 ·show(J.values.set d v).getD i 0 < W
  rw [getD_set_nat,if_neg(by omega)];exact h.small i hi
 ·obtain⟨s,hs⟩:=hside i l s' hl hs'
  obtain⟨a1,_,_,a4,a5⟩:=hnodes i l s s' hl hs hs'
  exact⟨a1,a4,a5⟩
 ·show markP x.2(rowL x.1(J.values.set d v))=none
  by_cases hkd:knownL x.1<=d
  ·rw [hrl x hx hkd];exact h.nob x hx hkd
  ·cases hm:markP x.2(rowL x.1(J.values.set d v)) with
   |none=>rfl
   |some m =>
    have:=(bars_eq hstat(d+1)).2⟨x,hx,by omega,by show(markP x.2(rowL x.1(J.values.set d v))).isSome=true;rw [hm];rfl⟩
    rw [hb] at this;cases this
 ·show(if d+1 < 5 then _ else _:List Nat).getD i 0=(J.values.set d v).getD i 0+1
  by_cases hi2:i=d
  ·subst hi2
   rw [hfd,getD_set_nat,if_pos⟨rfl,by omega⟩]
  ·rw [hfr i(by omega),getD_set_nat,if_neg(by omega)];exact h.from i(by omega)
 ·show(J.values.set d v).getD i 0 < W
  by_cases hi2:i=d
  ·subst hi2
   rw [getD_set_nat,if_pos⟨rfl,by omega⟩];exact hW
  ·rw [getD_set_nat,if_neg(by omega)];exact h.small i(by omega)
end Go.Proofs.YteampbddflhngabGreat

namespace Go.Proofs.YteampbddflhngabGreat
def afterJ(d:Nat)(vals:List Nat)(f:Nat)(y:List Nat):Prop:=(∀ p,p < d->y.getD p 0=vals.getD p 0)/\f<=y.getD d 0∨∃ i,i < d/\(∀ p,p < i->y.getD p 0=vals.getD p 0)/\vals.getD i 0 < y.getD i 0
def Left(r:PRule)(Ts Ns:List PTrie)(E:PRow->Prop)(d:Nat)(vals:List Nat)(f:Nat):Prop:=∀ y,SolJ r Ts Ns y->E(rowL r.head y)∨afterJ d vals f y
theorem varsL_all{l:PRLit}{d e:Nat}(hl:∀ p,hasL l p=true->p < d)(hd:d<=e):varsL l e=varsL l d:=by
 induction hd with
 |refl=>rfl
 |@step m h ih =>
  rw [varsL_succ,if_neg(fun q=>by have:=hl _ q;have:d<=m:=h;omega),ih]
def mixJ(d:Nat)(vals y:List Nat):List Nat:=(List.range 5).map fun p=>if p < d then vals.getD p 0 else y.getD p 0
theorem mixJ_at(d:Nat)(vals y:List Nat){p:Nat}(hp:p < 5):(mixJ d vals y).getD p 0=if p < d then vals.getD p 0 else y.getD p 0:=by
 simp [mixJ,List.getD,hp]
theorem goT_pre{T:PTrie}{a:Nat}{p q:PRow}(h:(goT T a(p++q)).isSome=true):(goT T a p).isSome=true:=by
 rw [goT_append] at h
 cases hg:goT T a p with
 |none=>rw [hg] at h;cases h
 |some x=>rfl
theorem JAt.mix{r:PRule}{Ts Ns:List PTrie}{W:Nat}{J:PJoin}{d:Nat}(h:JAt r Ts Ns W J d)(hr:RuleFine r)(hf:SidesFine r Ts W)(hd:d<=r.vars){y:List Nat}(hy:SolJ r Ts Ns y)(ha:∀ p:Nat,(p:Int)<=backR r(d:Nat)->y.getD p 0=J.values.getD p 0):SolJ r Ts Ns(mixJ d J.values y)/\rowL r.head(mixJ d J.values y)=rowL r.head y:=by
 obtain⟨_,_,b3,b4,b5⟩:=backR_spec r(known:=(d:Nat))(by omega)
 have hv5:=hr.vars
 have hlo:∀ {l:PRLit},(∀ p,hasL l p=true->p < r.vars)->(∀ p,hasL l p=true->p < d)->∀ p,hasL l p=true->(mixJ d J.values y).getD p 0=J.values.getD p 0:=fun hl hk p hp=>by
  have:=hl p hp
  rw [mixJ_at d _ _(by omega),if_pos(hk p hp)]
 have hhi:∀ {l:PRLit},(∀ p,hasL l p=true->p < r.vars)->(∀ p,hasL l p=true->p < d->(p:Int)<=backR r(d:Nat))->∀ p,hasL l p=true->(mixJ d J.values y).getD p 0=y.getD p 0:=fun hl hk p hp=>by
  have:=hl p hp
  rw [mixJ_at d _ _(by omega)]
  split
  ·rename_i hpd;exact(ha p(hk p hp hpd)).symm
  ·rfl
 refine⟨⟨fun i l T hl hT=>⟨fun h0=>(hy.1 i l T hl hT).1 h0,fun h0=>?_⟩,fun x hx=>?_⟩,rowL_congr _(hhi hr.head fun p hp hk=>by have:=lastL_ge r.head(known:=((d:Nat):Int)) hp(by omega);omega)⟩
 ·have hlm:=List.mem_of_getElem? hl
  rcases tiedL_le(b4 l hlm) with hk|hk
  ·obtain⟨s,hs⟩:=h.stat.some hf hl
   have hrow:=h.stat.side hs
   rw [hT] at hrow
   simp only [Option.some.injEq] at hrow
   have e:projL l(mixJ d J.values y) 5=projL l J.values d:=by
    rw [projL_congr l(y:=J.values) fun p _ hp=>hlo(hr.plain l hlm) hk p hp]
    unfold projL
    rw [varsL_all hk(by omega)]
   rw [e,hrow]
   exact(h.nodes i l s hl hs).2.2
  ·rw [projL_congr l(y:=y) fun p _ hp=>hhi(hr.plain l hlm) hk p hp]
   exact(hy.1 i l T hl hT).2 h0
 ·have hlm:x.1∈r.nots:=(List.of_mem_zip hx).1
  rcases tiedL_le(b5 x.1 hlm) with hk|hk
  ·rw [rowL_congr x.1(hlo(hr.nots x.1 hlm) hk)]
   exact h.nob x hx(knownL_le x.1 hk)
  ·rw [rowL_congr x.1(hhi(hr.nots x.1 hlm) hk)]
   exact hy.2 x hx
theorem JAt.sol{r:PRule}{Ts Ns:List PTrie}{W:Nat}{J:PJoin}{d:Nat}(h:JAt r Ts Ns W J d)(hr:RuleFine r)(hf:SidesFine r Ts W)(hd:d < r.vars){y:List Nat}(hy:SolJ r Ts Ns y)(ha:∀ p,p < d->y.getD p 0=J.values.getD p 0):∀ x∈holdsJ r d,(holdD J x(y.getD d 0)).isSome=true:=by
 intro x hx
 obtain⟨l,s,h1,h2,h3,_,_,_,_,_,h9⟩:=h.hold hr hf hx
 have hv5:=hr.vars
 have hT:=h.stat.side h2
 have h0:depthL l≠0:=by
  rw [depthL_eq]
  intro q
  have:d∈varsL l 5:=(varsL_mem l 5 d).2⟨by omega,h3⟩
  rw [List.length_eq_zero_iff.1 q] at this
  cases this
 have hs:=(hy.1 x.1 l s.rows h1 hT).2 h0
 rw [← h9]
 have e:projL l J.values d++[y.getD d 0]=projL l y(d+1):=by
  have:projL l y d=projL l J.values d:=projL_congr l fun p hp _=>ha p hp
  unfold projL at this ⊢
  rw [varsL_succ,if_pos h3,List.map_append,this]
  rfl
 rw [e,projL_prefix l y(show d+1<=5 by omega)]
 unfold semT at hs
 rw [← List.take_append_drop(varsL l(d+1)).length(projL l y 5)] at hs
 exact goT_pre hs
def costK(W:Nat):Nat->Nat
 |0=>1
 |j+1=>W * (1+costK W j)+1
def costC(W vars d f:Nat):Nat:=(W - f) * (1+costK W(vars - d - 1))+1
def costS(W vars:Nat)(vals:List Nat):Nat->Nat
 |0=>0
 |d+1=>costS W vars vals d+costC W vars d(vals.getD d 0+1)
def costM(W vars d:Nat)(vals:List Nat)(f:Nat):Nat:=costS W vars vals d+if d < vars then costC W vars d f else 1
theorem costS_congr(W vars:Nat){x y:List Nat}:∀ d,(∀ p,p < d->x.getD p 0=y.getD p 0)->costS W vars x d=costS W vars y d
 |0,_=>rfl
 |d+1,h=>by simp only [costS];rw [costS_congr W vars d(fun p hp=>h p(by omega)),h d(by omega)]
theorem costS_mono(W vars:Nat)(vals:List Nat){a b:Nat}(h:a<=b):costS W vars vals a<=costS W vars vals b:=by
 induction h with
 |refl=>exact Nat.le_refl _
 |step h ih=>simp only [costS];omega
theorem costM_take{W vars d f v:Nat}{vals:List Nat}(hd:d < vars)(hl:d < vals.length)(hf:f<=v)(hv:v < W):costM W vars(d+1)(vals.set d v) 0 < costM W vars d vals f/\costM W vars d(vals.set d v)(v+1) < costM W vars d vals f:=by
 have e1:costS W vars(vals.set d v) d=costS W vars vals d:=costS_congr W vars d fun p hp=>by rw [getD_set_nat,if_neg(by omega)]
 have e2:(vals.set d v).getD d 0=v:=by rw [getD_set_nat,if_pos⟨rfl,hl⟩]
 have e3:(if d+1 < vars then costC W vars(d+1) 0 else 1)=costK W(vars - d - 1):=by
  split
  ·obtain⟨j,hj⟩:∃ j,vars - d - 1=j+1:=⟨vars - d - 2,by omega⟩
   rw [hj]
   unfold costC
   rw [show vars - (d+1) - 1=j by omega,Nat.sub_zero]
   rfl
  ·rw [show vars - d - 1=0 by omega];rfl
 have e4:costC W vars d f=costC W vars d(v+1)+(v+1 - f) * (1+costK W(vars - d - 1)):=by
  unfold costC
  rw [show W - f=(W - (v+1))+(v+1 - f) by omega,Nat.add_mul]
  omega
 have e5:1 * (1+costK W(vars - d - 1))<=(v+1 - f) * (1+costK W(vars - d - 1)):=Nat.mul_le_mul_right _(by omega)
 refine⟨?_,?_⟩
 ·unfold costM
  rw [if_pos hd,e3]
  simp only [costS]
  rw [e1,e2]
  omega
 ·unfold costM
  rw [if_pos hd,if_pos hd,e1]
  omega
theorem costM_pos(W vars d:Nat)(vals:List Nat)(f:Nat):1<=costM W vars d vals f:=by
 unfold costM
 split
 ·unfold costC;omega
 ·omega
theorem costM_back{W vars d b f:Nat}{vals:List Nat}(hd:d<=vars)(hb:b < d):costM W vars b vals(vals.getD b 0+1) < costM W vars d vals f:=by
 have e1:costM W vars b vals(vals.getD b 0+1)=costS W vars vals(b+1):=by
  unfold costM;rw [if_pos(by omega)];rfl
 have e2:=costS_mono W vars vals(show b+1<=d by omega)
 have e3:1<=if d < vars then costC W vars d f else 1:=by
  split
  ·unfold costC;omega
  ·omega
 rw [e1]
 unfold costM
 omega
def Searched(r:PRule)(Ts Ns:List PTrie)(W:Nat)(E:PRow->Prop)(M:Nat)(J':PJoin):Bool->Prop
 |true=>JAt r Ts Ns W J' r.vars/\Left r Ts Ns E r.vars J'.values 0/\costM W r.vars r.vars J'.values 0<=M
 |false=>(∀ y,SolJ r Ts Ns y->E(rowL r.head y))/\JStat r Ts Ns J'
theorem JStat.ok{r:PRule}{Ts Ns:List PTrie}{W:Nat}{J:PJoin}(h:JStat r Ts Ns J)(hf:SidesFine r Ts W):SidesOK J:=by
 intro i
 cases hs:J.sides[i]? with
 |none =>
  have:J.sides.getD i PSide.zero=PSide.zero:=by simp [List.getD,hs]
  rw [this]
  intro a ha
  simp [PSide.zero] at ha
 |some s =>
  have:J.sides.getD i PSide.zero=s:=by simp [List.getD,hs]
  rw [this]
  have hT:=h.side hs
  have hi:i < r.plain.length:=by rw [← hf.len];exact(List.getElem?_eq_some_iff.1 hT).1
  obtain⟨⟨pth,hinv⟩,_⟩:=(hf.ok i _ _(List.getElem?_eq_getElem hi) hT).1
  exact hinv.node
theorem search_spec{r:PRule}{Ts Ns:List PTrie}{W:Nat}(hr:RuleFine r)(hf:SidesFine r Ts W)(E:PRow->Prop)(A:Nat)(hA:W * (r.plain.length+1)+r.plain.length<=A) :
  ∀ (n:Nat)(J:PJoin)(d f:Nat),JAt r Ts Ns W J d->d<=r.vars->(d < r.vars->J.from.getD d 0=f)->Left r Ts Ns E d J.values f->costM W r.vars d J.values f+A < n->∃ J' b,searchN n J(d:Nat)=some(J',b)/\Searched r Ts Ns W E(costM W r.vars d J.values f) J' b:=by
 intro n
 induction n with
 |zero=>intro J d f _ _ _ _ h;omega
 |succ n ih =>
  intro J d f h hd hfr hL hn
  have hv5:=hr.vars
  have hpos:=costM_pos W r.vars d J.values f
  unfold searchN
  have hjv:=h.stat.vars
  by_cases hdv:d < r.vars
  ·rw [if_pos⟨by omega,by rw [hjv];omega,by omega⟩]
   simp only [Int.toNat_natCast]
   have hhold:=h.stat.holdsAt(show d < 5 by omega)
   have hne:J.holds.getD d []≠[]:=by
    rw [hhold]
    obtain⟨l,hl1,hl2⟩:=hr.safe d hdv
    obtain⟨i,hi,rfl⟩:=List.getElem_of_mem hl1
    intro q
    have:=holds_of(List.getElem?_eq_getElem hi) hl2
    rw [q] at this
    cases this
   have hlen:(holdsJ r d).length<=r.plain.length:=by
    unfold holdsJ
    refine Nat.le_trans(List.length_filterMap_le _ _) ?_
    simp
   have hsz:W * ((holdsJ r d).length+1)+(holdsJ r d).length<=A:=by
    have:W * ((holdsJ r d).length+1)<=W * (r.plain.length+1):=Nat.mul_le_mul_left _(by omega)
    omega
   obtain⟨J1,res,a1,a2,a3⟩:=agreeJ_spec W J d(J.from.getD d 0) n(by omega)(h.stat.ok hf) hne(by
    rw [hhold]
    intro x hx
    obtain⟨_,_,_,_,_,_,_,q,_⟩:=h.hold hr hf hx
    exact q)(by
    rw [hhold]
    intro x hx v hv
    obtain⟨l,s,_,q2,_,_,_,_,_,q8,_⟩:=h.hold hr hf hx
    unfold holdD at hv
    obtain⟨b,hb⟩:=Option.isSome_iff_exists.1 hv
    have:=(down_lt hb).2
    rw [show J.sides.getD x.1 PSide.zero=s by simp [List.getD,q2]] at this
    omega)(by rw [hhold];omega)
   rw [hhold] at a3
   rw [hfr hdv] at a1 a3
   rw [hfr hdv,a1]
   have h1:=h.same a2
   have hvals:J1.values=J.values:=by rw [a2]
   have hfrom:J1.from=J.from:=by rw [a2]
   have hold1:∀ x v,holdD J1 x v=holdD J x v:=fun x v=>holdD_same a2 x v
   cases res with
   |none =>
    simp only
    have hbk:J1.backs.getD d 0=backR r(d:Nat):=by rw [h1.stat.backs];simp [List.getD,show d < 5 by omega]
    rw [hbk]
    obtain⟨b1,b2,b3,b4,b5⟩:=backR_spec r(known:=((d:Nat):Int))(by omega)
    have key:∀ y,SolJ r Ts Ns y->(∀ p:Nat,(p:Int)<=backR r(d:Nat)->y.getD p 0=J.values.getD p 0)->E(rowL r.head y):=by
     intro y hy ha
     obtain⟨m1,m2⟩:=h.mix hr hf hd hy ha
     have hlow:∀ p,p < d->(mixJ d J.values y).getD p 0=J.values.getD p 0:=fun p hp=>by rw [mixJ_at d _ _(by omega),if_pos hp]
     rw [← m2]
     rcases hL _ m1 with q|⟨_,q⟩|⟨i,q1,_,q3⟩
     ·exact q
     ·obtain⟨x,hx,hx2⟩:=a3 _ q
      have:=h.sol hr hf hdv m1 hlow x hx
      rw [hx2] at this
      cases this
     ·rw [hlow i q1] at q3;omega
    by_cases hneg:backR r(d:Nat) < 0
    ·have hbm:backR r(d:Nat)=-1:=by omega
     rw [hbm]
     cases n with
     |zero=>omega
     |succ n =>
      refine⟨J1,false,?_,?_,h1.stat⟩
      ·unfold searchN
       rw [if_neg(by omega)]
       have:¬ ((-1:Int) ≥ (J1.vars:Int)):=by omega
       simp [this]
      ·intro y hy
       exact key y hy fun p hp=>by omega
    ·obtain⟨b,hb⟩:∃ b:Nat,backR r(d:Nat)=(b:Int):=⟨(backR r(d:Nat)).toNat,by omega⟩
     rw [hb] at key b1 ⊢
     have hbd:b < d:=by omega
     have hM:=costM_back(W:=W)(vars:=r.vars)(f:=f)(vals:=J.values) hd hbd
     obtain⟨J',bb,s1,s2⟩:=ih J1 b(J.values.getD b 0+1)(h1.back(by omega))(by omega)(fun _=>by rw [hfrom,h.from b hbd])(by
      rw [hvals]
      intro y hy
      rcases hL y hy with q|⟨q1,q2⟩|⟨i,q1,q2,q3⟩
      ·exact Or.inl q
      ·exact Or.inl(key y hy fun p hp=>q1 p(by omega))
      ·by_cases hib:i<=b
       ·refine Or.inr ?_
        by_cases hib2:i=b
        ·subst hib2
         exact Or.inl⟨q2,by omega⟩
        ·exact Or.inr⟨i,by omega,q2,q3⟩
       ·exact Or.inl(key y hy fun p hp=>q2 p(by omega)))(by rw [hvals];omega)
     refine⟨J',bb,s1,?_⟩
     rw [hvals] at s2
     cases bb with
     |true=>exact⟨s2.1,s2.2.1,by have:=s2.2.2;omega⟩
     |false=>exact s2
   |some v =>
    simp only
    obtain⟨c1,c2,c3⟩:=a3
    have hvW:v < W:=by
     obtain⟨x,hx⟩:=List.exists_mem_of_ne_nil _(hhold ▸ hne)
     obtain⟨l,s,_,q2,_,_,_,_,_,q8,_⟩:=h.hold hr hf hx
     have hv:=c2 x hx
     unfold holdD at hv
     obtain⟨b,hb⟩:=Option.isSome_iff_exists.1 hv
     have:=(down_lt hb).2
     rw [show J.sides.getD x.1 PSide.zero=s by simp [List.getD,q2]] at this
     omega
    obtain⟨t1,t2,t3,t4,t5,t6⟩:=h1.take hr hf hdv(v:=v)(fun x hx=>by rw [hold1];exact c2 x hx) hvW
    rw [hvals] at t1
    have hvl:d < J.values.length:=by rw [h.stat.vlen];omega
    obtain⟨m1,m2⟩:=costM_take(W:=W)(vars:=r.vars)(f:=f)(vals:=J.values) hdv hvl c1 hvW
    have hnosol:∀ y,SolJ r Ts Ns y->(∀ p,p < d->y.getD p 0=J.values.getD p 0)->f<=y.getD d 0->v<=y.getD d 0:=by
     intro y hy ha hq
     false_or_by_contra
     rename_i hlt
     obtain⟨x,hx,hx2⟩:=c3(y.getD d 0) hq(by omega)
     have:=h.sol hr hf hdv hy ha x hx
     rw [hx2] at this
     cases this
    have hset:∀ p,p < d->(J.values.set d v).getD p 0=J.values.getD p 0:=fun p hp=>by rw [getD_set_nat,if_neg(by omega)]
    have hsetd:(J.values.set d v).getD d 0=v:=by rw [getD_set_nat,if_pos⟨rfl,hvl⟩]
    by_cases hb:barredJ(takeJ J1 d v)(d+1)=true
    ·rw [if_pos hb]
     obtain⟨x,hx,hk,hm⟩:=(bars_eq t5.stat(d+1)).1 hb
     rw [t1] at hm
     obtain⟨J',bb,s1,s2⟩:=ih(takeJ J1 d v) d(v+1) t5 hd(fun _=>t3)(by
      rw [t1]
      intro y hy
      rcases hL y hy with q|⟨q1,q2⟩|⟨i,q1,q2,q3⟩
      ·exact Or.inl q
      ·have hge:=hnosol y hy q1 q2
       by_cases hyv:y.getD d 0=v
       ·have:=hy.2 x hx
        rw [rowL_congr x.1(y:=J.values.set d v) fun p hp=>?_] at this
        ·rw [this] at hm;cases hm
        ·have hpk:=knownL_gt x.1 hp
         by_cases hpd:p=d
         ·rw [hpd,hsetd,hyv]
         ·rw [hset p(by omega),q1 p(by omega)]
       ·exact Or.inr(Or.inl⟨fun p hp=>by rw [hset p hp];exact q1 p hp,by omega⟩)
      ·exact Or.inr(Or.inr⟨i,q1,fun p hp=>by rw [hset p(by omega)];exact q2 p hp,by rw [hset i q1];exact q3⟩))(by rw [t1];omega)
     refine⟨J',bb,s1,?_⟩
     rw [t1] at s2
     cases bb with
     |true=>exact⟨s2.1,s2.2.1,by have:=s2.2.2;omega⟩
     |false=>exact s2
    ·rw [if_neg hb]
     have hb:barredJ(takeJ J1 d v)(d+1)=false:=by simpa using hb
     have e:((d:Nat):Int)+1=((d+1:Nat):Int):=by omega
     rw [e]
     obtain⟨J',bb,s1,s2⟩:=ih(takeJ J1 d v)(d+1) 0(t6 hb)(by omega)(fun _=>t4(by omega))(by
      rw [t1]
      intro y hy
      rcases hL y hy with q|⟨q1,q2⟩|⟨i,q1,q2,q3⟩
      ·exact Or.inl q
      ·have hge:=hnosol y hy q1 q2
       by_cases hyv:y.getD d 0=v
       ·refine Or.inr(Or.inl⟨fun p hp=>?_,Nat.zero_le _⟩)
        by_cases hpd:p=d
        ·rw [hpd,hsetd,hyv]
        ·rw [hset p(by omega)];exact q1 p(by omega)
       ·exact Or.inr(Or.inr⟨d,by omega,fun p hp=>by rw [hset p hp];exact q1 p hp,by rw [hsetd];omega⟩)
      ·exact Or.inr(Or.inr⟨i,by omega,fun p hp=>by rw [hset p(by omega)];exact q2 p hp,by rw [hset i q1];exact q3⟩))(by rw [t1];omega)
     refine⟨J',bb,s1,?_⟩
     rw [t1] at s2
     cases bb with
     |true=>exact⟨s2.1,s2.2.1,by have:=s2.2.2;omega⟩
     |false=>exact s2
  ·have hdd:d=r.vars:=by omega
   subst hdd
   rw [if_neg(by rw [hjv];omega)]
   refine⟨J,true,by simp [hjv],h,?_,?_⟩
   ·intro y hy
    rcases hL y hy with q|⟨q1,_⟩|q
    ·exact Or.inl q
    ·exact Or.inr(Or.inl⟨q1,Nat.zero_le _⟩)
    ·exact Or.inr(Or.inr q)
   ·unfold costM;rw [if_neg hdv,if_neg hdv];exact Nat.le_refl _
end Go.Proofs.YteampbddflhngabGreat

namespace Go.Proofs.YteampbddflhngabGreat
def JNext(r:PRule)(Ts Ns:List PTrie)(W:Nat)(E:PRow->Prop)(J:PJoin)(M:Nat):Prop :=
 J.depth=-1/\JStat r Ts Ns J/\(∀ y,SolJ r Ts Ns y->E(rowL r.head y))∨(∀ (i:Nat)(T:PTrie),Ts[i]?=some T->T.count≠0)/\∃ (d f:Nat),J.depth=(d:Nat)/\d<=r.vars/\JAt r Ts Ns W J d/\(d < r.vars->J.from.getD d 0=f)/\Left r Ts Ns E d J.values f/\costM W r.vars d J.values f<=M
theorem depthP_self{d:Nat}(h0:d≠0)(h3:d<=3):depthP d=d:=by unfold depthP;by_cases h1:d < 1 <;> by_cases h2:d > 3 <;> simp [h1,h2] <;> omega
theorem SatL.count{T:PTrie}{l:PRLit}{y:List Nat}(h:SatL T l y)(hT:TrieOK T)(hd:T.depth=depthP(depthL l))(h3:l.terms.length<=3):T.count≠0:=by
 by_cases h0:depthL l=0
 ·exact h.1 h0
 ·have hs:=h.2 h0
  have h5:=varsL_terms l 5
  rw [← depthL_eq] at h5
  have hm:projL l y 5∈keysT T:=(keysT_mem T _).2⟨by rw [projL_len,← depthL_eq,hd,depthP_self h0(by omega)],hs⟩
  have:=List.length_pos_of_mem hm
  rw [hT.cnt] at this
  omega
def joinBaseP(r:PRule)(plain nots:List PTrie):PJoin:={ head:=r.head,vars:=r.vars,sides:=plain.map(fun T=>⟨T,[0,0,0]⟩),bars:=(r.nots.zip nots).map(fun x=>⟨x.1,knownL x.1,x.2⟩),holds:=(List.range 5).map(holdsJ r),backs:=(List.range 5).map(fun p=>backR r(p:Nat)),last:=backR r r.vars,values:=[0,0,0,0,0],«from»:=[0,0,0,0,0],depth:=if plain.any(fun T=>T.count == 0) then -1 else 0,moves:=0 }
theorem joinNew_eqP(r:PRule)(Ts Ns:List PTrie):joinNew r Ts Ns=if barredJ(joinBaseP r Ts Ns) 0 then{ joinBaseP r Ts Ns with depth:=-1 } else joinBaseP r Ts Ns:=rfl
theorem joinNew_at(r:PRule)(Ts Ns:List PTrie):∃ dd,joinNew r Ts Ns={ joinBaseP r Ts Ns with depth:=dd }/\dd=if barredJ(joinNew r Ts Ns) 0=true then -1 else if Ts.any(fun T=>T.count == 0)=true then -1 else 0:=by
 have hbe:∀ dd:Int,barredJ{ joinBaseP r Ts Ns with depth:=dd } 0=barredJ(joinBaseP r Ts Ns) 0:=fun _=>rfl
 rw [joinNew_eqP]
 by_cases hb:barredJ(joinBaseP r Ts Ns) 0=true
 ·rw [if_pos hb]
  exact⟨-1,rfl,by rw [hbe,if_pos hb]⟩
 ·rw [if_neg hb]
  exact⟨_,rfl,by rw [if_neg hb]⟩
theorem joinNew_stat(r:PRule)(Ts Ns:List PTrie):JStat r Ts Ns(joinNew r Ts Ns)/\(joinNew r Ts Ns).values=[0,0,0,0,0]/\(joinNew r Ts Ns).from=[0,0,0,0,0]/\(joinNew r Ts Ns).sides=Ts.map(fun T=>⟨T,[0,0,0]⟩):=by
 obtain⟨dd,h,_⟩:=joinNew_at r Ts Ns
 rw [h]
 exact⟨⟨rfl,rfl,rfl,rfl,rfl,rfl,by simp [joinBaseP,Function.comp_def],rfl,rfl⟩,rfl,rfl,rfl⟩
theorem joinNew_spec{r:PRule}{Ts Ns:List PTrie}{W:Nat}(hr:RuleFine r)(hf:SidesFine r Ts W)(E:PRow->Prop):JNext r Ts Ns W E(joinNew r Ts Ns)(costM W r.vars 0 [] 0):=by
 obtain⟨hst,hv,hfr,hsd⟩:=joinNew_stat r Ts Ns
 have hnosol:(∃ (i:Nat)(T:PTrie),Ts[i]?=some T/\T.count=0)->∀ y,¬ SolJ r Ts Ns y:=by
  rintro⟨i,T,h1,h2⟩ y hy
  have hi:i < r.plain.length:=by rw [← hf.len];exact(List.getElem?_eq_some_iff.1 h1).1
  have hl:=List.getElem?_eq_getElem hi
  obtain⟨q1,q2,_⟩:=hf.ok i _ T hl h1
  exact(hy.1 i _ T hl h1).count q1 q2(hr.terms _(List.mem_of_getElem? hl)) h2
 have hnobar:barredJ(joinNew r Ts Ns) 0=true->∀ y,¬ SolJ r Ts Ns y:=by
  intro hb y hy
  obtain⟨x,hx,hk,hm⟩:=(bars_eq hst 0).1 hb
  have:=hy.2 x hx
  rw [rowL_congr x.1(y:=(joinNew r Ts Ns).values) fun p hp=>by have:=knownL_gt x.1 hp;omega] at this
  rw [this] at hm
  cases hm
 have hdep:(joinNew r Ts Ns).depth=if barredJ(joinNew r Ts Ns) 0=true then -1 else if Ts.any(fun T=>T.count == 0)=true then -1 else 0:=by
  obtain⟨dd,h1,h2⟩:=joinNew_at r Ts Ns
  rw [← h2,h1]
 by_cases hb:barredJ(joinNew r Ts Ns) 0=true
 ·left
  rw [if_pos hb] at hdep
  exact⟨hdep,hst,fun y hy=>absurd hy(hnobar hb y)⟩
 ·rw [if_neg hb] at hdep
  by_cases hz:Ts.any(fun T=>T.count == 0)=true
  ·left
   rw [if_pos hz] at hdep
   refine⟨hdep,hst,fun y hy=>absurd hy(hnosol ?_ y)⟩
   obtain⟨T,h1,h2⟩:=List.any_eq_true.1 hz
   obtain⟨i,hi,rfl⟩:=List.getElem_of_mem h1
   exact⟨i,_,List.getElem?_eq_getElem hi,by simpa using h2⟩
  ·right
   rw [if_neg hz] at hdep
   refine⟨fun i T hT hc=>hz(List.any_eq_true.2⟨T,List.mem_of_getElem? hT,by simp [hc]⟩),0,0,hdep,Nat.zero_le _,⟨hst,fun i l s hl hs=>?_,fun x hx hk=>?_,fun i hi=>by omega,fun i hi=>by omega⟩,fun _=>by rw [hfr];rfl,fun y _=>Or.inr(Or.inl⟨fun p hp=>by omega,Nat.zero_le _⟩),?_⟩
   ·rw [hsd] at hs
    simp only [List.getElem?_map,Option.map_eq_some_iff] at hs
    obtain⟨T,hT,rfl⟩:=hs
    have hp:projL l(joinNew r Ts Ns).values 0=[]:=rfl
    refine⟨rfl,fun k hk h3=>?_,by rw [hp];rfl⟩
    have:k=0:=by simp [varsL] at hk;exact hk
    subst this
    rw [hp];rfl
   ·cases hm:markP x.2(rowL x.1(joinNew r Ts Ns).values) with
    |none=>rfl
    |some m=>exact absurd((bars_eq hst 0).2⟨x,hx,by omega,by rw [hm];rfl⟩) hb
   ·unfold costM;exact Nat.le_refl _
theorem next_spec{r:PRule}{Ts Ns:List PTrie}{W:Nat}(hr:RuleFine r)(hf:SidesFine r Ts W)(E:PRow->Prop)(A:Nat)(hA:W * (r.plain.length+1)+r.plain.length<=A)(n:Nat)(J:PJoin)(M:Nat)(h:JNext r Ts Ns W E J M)(hn:M+A+1 < n) :
  ∃ J' b,nextJ n J=some(J',b)/\(b=false->∀ y,SolJ r Ts Ns y->E(rowL r.head y))/\(b=true->SolJ r Ts Ns J'.values/\J'.head=r.head/\∃ M',M' < M/\JNext r Ts Ns W(fun x=>E x∨x=rowL r.head J'.values) J' M'):=by
 unfold nextJ
 rcases h with⟨h1,h2,h3⟩|⟨hcnt,d,f,h1,h2,h3,h4,h5,h6⟩
 ·rw [h1]
  obtain⟨k,rfl⟩:∃ k,n=k+1:=⟨n - 1,by omega⟩
  refine⟨{ J with depth:=-1 },false,?_,fun _=>h3,fun q=>by cases q⟩
  unfold searchN
  rw [if_neg(by omega)]
  have:¬ ((-1:Int) ≥ (J.vars:Int)):=by omega
  simp [this]
 ·rw [h1]
  obtain⟨J',b,s1,s2⟩:=search_spec hr hf E A hA n J d f h3 h2 h4 h5(by omega)
  rw [s1]
  simp only
  cases b with
  |false=>exact⟨_,false,rfl,fun _=>s2.1,fun q=>by cases q⟩
  |true =>
   obtain⟨t1,t2,t3⟩:=s2
   have hv5:=hr.vars
   have hsol:SolJ r Ts Ns J'.values:=by
    refine⟨fun i l T hl hT=>⟨fun _=>hcnt i T hT,fun _=>?_⟩,fun x hx=>?_⟩
    ·obtain⟨s,hs⟩:=t1.stat.some hf hl
     have hrow:=t1.stat.side hs
     rw [hT] at hrow
     simp only [Option.some.injEq] at hrow
     rw [projL_five hv5(hr.plain l(List.mem_of_getElem? hl)),hrow]
     exact(t1.nodes i l s hl hs).2.2
    ·exact t1.nob x hx(knownL_le x.1(hr.nots x.1(List.of_mem_zip hx).1))
   refine⟨_,true,rfl,fun q=>(by cases q),fun _=>⟨hsol,t1.stat.head,?_⟩⟩
   simp only [if_true]
   obtain⟨b1,b2,b3,_,_⟩:=backR_spec r(known:=((r.vars:Nat):Int))(by omega)
   have hlast:=t1.stat.last
   have key:∀ y,(∀ p:Nat,(p:Int)<=backR r(r.vars:Nat)->y.getD p 0=J'.values.getD p 0)->rowL r.head y=rowL r.head J'.values:=fun y ha=>rowL_congr r.head fun p hp=>ha p(by
    have h1:=hr.head p hp
    have:=lastL_ge r.head(known:=((r.vars:Nat):Int)) hp(by omega)
    omega)
   have hstat2:JStat r Ts Ns{ J' with depth:=J'.last }:=⟨t1.stat.head,t1.stat.vars,t1.stat.holds,t1.stat.backs,t1.stat.last,t1.stat.bars,t1.stat.sides,t1.stat.vlen,t1.stat.flen⟩
   have hpos:=costM_pos W r.vars d J.values f
   by_cases hneg:backR r(r.vars:Nat) < 0
   ·refine⟨M - 1,by omega,Or.inl⟨by show J'.last=-1;rw [hlast];omega,hstat2,fun y hy=>?_⟩⟩
    exact Or.inr(key y fun p hp=>by omega)
   ·obtain⟨bb,hb⟩:∃ b:Nat,backR r(r.vars:Nat)=(b:Int):=⟨(backR r(r.vars:Nat)).toNat,by omega⟩
    rw [hb] at b1 key
    have hbd:bb < r.vars:=by omega
    have hM:=costM_back(W:=W)(vars:=r.vars)(f:=0)(vals:=J'.values)(Nat.le_refl _) hbd
    have hback:=t1.back(b:=bb)(by omega)
    refine⟨costM W r.vars bb J'.values(J'.values.getD bb 0+1),by omega,Or.inr⟨hcnt,bb,J'.values.getD bb 0+1,by show J'.last=_;rw [hlast,hb],by omega,⟨hstat2,hback.nodes,hback.nob,hback.from,hback.small⟩,fun _=>t1.from bb hbd,fun y hy=>?_,Nat.le_refl _⟩⟩
    rcases t2 y hy with q|⟨q1,_⟩|⟨i,q1,q2,q3⟩
    ·exact Or.inl(Or.inl q)
    ·exact Or.inl(Or.inr(key y fun p hp=>q1 p(by omega)))
    ·by_cases hib:i<=bb
     ·refine Or.inr ?_
      by_cases hib2:i=bb
      ·subst hib2
       exact Or.inl⟨q2,by omega⟩
      ·exact Or.inr⟨i,by omega,q2,q3⟩
     ·exact Or.inl(Or.inr(key y fun p hp=>q2 p(by omega)))
end Go.Proofs.YteampbddflhngabGreat
