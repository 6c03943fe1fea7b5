import Derived.Test.YteampbddflhngabGreatJ37

namespace Go.Proofs.YteampbddflhngabGreat
def z6z(d:Nat)(vals:List Nat)(f:Nat)(y:List Nat):Prop:=(∀ p,p < d->y.getD p 0=vals.getD p 0)/\f<=y.getD d 0∨∃ i,i < d/\(∀ p,p < i->y.getD p 0=vals.getD p 0)/\vals.getD i 0 < y.getD i 0
def Left(r:zaf)(Ts Ns:List zad)(E:zaq->Prop)(d:Nat)(vals:List Nat)(f:Nat):Prop:=∀ y,zrf r Ts Ns y->E (zcp r.head y)∨z6z d vals f y
theorem z2m{l:zai}{d e:Nat}(hl:∀ p,zc8 l p=true->p < d)(hd:d<=e):zcb l e=zcb l d:=by
 induction hd with
 |refl=>rfl
 |@step m h ih =>
  rw[zef,if_neg (fun q=>by have:=hl _ q;have:d<=m:=h;omega),ih]
def z5m(d:Nat)(vals y:List Nat):List Nat:=(List.range 5).map fun p=>if p < d then vals.getD p 0 else y.getD p 0
theorem zu8(d:Nat)(vals y:List Nat){p:Nat}(hp:p < 5):(z5m d vals y).getD p 0=if p < d then vals.getD p 0 else y.getD p 0:=by
 simp[z5m,List.getD,hp]
theorem z6f{T:zad}{a:Nat}{p q:zaq}(h:(goT T a (p++q)).isSome=true):(goT T a p).isSome=true:=by
 rw[zfn] at h
 cases hg:goT T a p with
 |none=>rw[hg] at h;cases h
 |some x=>rfl
theorem JAt.mix{r:zaf}{Ts Ns:List zad}{W:Nat}{J:zat}{d:Nat}(h:JAt r Ts Ns W J d)(hr:zfv r)(hf:zdo r Ts W)(hd:d<=r.vars){y:List Nat}(hy:zrf r Ts Ns y)(ha:∀ p:Nat,(p:Int)<=zdz r (d:Nat)->y.getD p 0=J.values.getD p 0):zrf r Ts Ns (z5m d J.values y)/\zcp r.head (z5m d J.values y)=zcp r.head y:=by
 obtain⟨_,_,b3,b4,b5⟩:=zlf r (known:=(d:Nat)) (by omega)
 have hv5:=hr.vars
 have hlo:∀ {l:zai},(∀ p,zc8 l p=true->p < r.vars)->(∀ p,zc8 l p=true->p < d)->∀ p,zc8 l p=true->(z5m d J.values y).getD p 0=J.values.getD p 0:=fun hl hk p hp=>by
  have:=hl p hp
  rw[zu8 d _ _ (by omega),if_pos (hk p hp)]
 have hhi:∀ {l:zai},(∀ p,zc8 l p=true->p < r.vars)->(∀ p,zc8 l p=true->p < d->(p:Int)<=zdz r (d:Nat))->∀ p,zc8 l p=true->(z5m d J.values y).getD p 0=y.getD p 0:=fun hl hk p hp=>by
  have:=hl p hp
  rw[zu8 d _ _ (by omega)]
  split
  ·rename_i hpd;exact(ha p (hk p hp hpd)).symm
  ·rfl
 refine⟨⟨fun i l T hl hT=>⟨fun h0=>(hy.1 i l T hl hT).1 h0,fun h0=>?_⟩,fun x hx=>?_⟩,zfs _ (hhi hr.head fun p hp hk=>by have:=zqr r.head (known:=((d:Nat):Int)) hp (by omega);omega)⟩
 ·have hlm:=List.mem_of_getElem? hl
  rcases zxa (b4 l hlm) with hk|hk
  ·obtain⟨s,hs⟩:=h.stat.some hf hl
   have hrow:=h.stat.side hs
   rw[hT] at hrow
   simp only[Option.some.injEq] at hrow
   have e:zb1 l (z5m d J.values y) 5=zb1 l J.values d:=by
    rw[zh1 l (y:=J.values) fun p _ hp=>hlo (hr.plain l hlm) hk p hp]
    unfold zb1
    rw[z2m hk (by omega)]
   rw[e,hrow]
   exact(h.nodes i l s hl hs).2.2
  ·rw[zh1 l (y:=y) fun p _ hp=>hhi (hr.plain l hlm) hk p hp]
   exact(hy.1 i l T hl hT).2 h0
 ·have hlm:x.1∈r.nots:=(List.of_mem_zip hx).1
  rcases zxa (b5 x.1 hlm) with hk|hk
  ·rw[zfs x.1 (hlo (hr.nots x.1 hlm) hk)]
   exact h.nob x hx (zso x.1 hk)
  ·rw[zfs x.1 (hhi (hr.nots x.1 hlm) hk)]
   exact hy.2 x hx
theorem JAt.sol{r:zaf}{Ts Ns:List zad}{W:Nat}{J:zat}{d:Nat}(h:JAt r Ts Ns W J d)(hr:zfv r)(hf:zdo r Ts W)(hd:d < r.vars){y:List Nat}(hy:zrf r Ts Ns y)(ha:∀ p,p < d->y.getD p 0=J.values.getD p 0):∀ x∈zbw r d,(zhw J x (y.getD d 0)).isSome=true:=by
 intro x hx
 obtain⟨l,s,h1,h2,h3,_,_,_,_,_,h9⟩:=h.hold hr hf hx
 have hv5:=hr.vars
 have hT:=h.stat.side h2
 have h0:za7 l≠0:=by
  rw[zd4]
  intro q
  have:d∈zcb l 5:=(zht l 5 d).2 ⟨by omega,h3⟩
  rw[List.length_eq_zero_iff.1 q] at this
  cases this
 have hs:=(hy.1 x.1 l s.rows h1 hT).2 h0
 rw[← h9]
 have e:zb1 l J.values d++[y.getD d 0]=zb1 l y (d+1):=by
  have:zb1 l y d=zb1 l J.values d:=zh1 l fun p hp _=>ha p hp
  unfold zb1 at this ⊢
  rw[zef,if_pos h3,List.map_append,this]
  rfl
 rw[e,ziu l y (show d+1<=5 by omega)]
 unfold zjg at hs
 rw[← List.take_append_drop (zcb l (d+1)).length (zb1 l y 5)] at hs
 exact z6f hs
def zxv(W:Nat):Nat->Nat
 |0=>1
 |j+1=>W * (1+zxv W j)+1
def zoj(W vars d f:Nat):Nat:=(W - f) * (1+zxv W (vars - d - 1))+1
def zma(W vars:Nat)(vals:List Nat):Nat->Nat
 |0=>0
 |d+1=>zma W vars vals d+zoj W vars d (vals.getD d 0+1)
def zgo(W vars d:Nat)(vals:List Nat)(f:Nat):Nat:=zma W vars vals d+if d < vars then zoj W vars d f else 1
theorem zm5(W vars:Nat){x y:List Nat}:∀ d,(∀ p,p < d->x.getD p 0=y.getD p 0)->zma W vars x d=zma W vars y d
 |0,_=>rfl
 |d+1,h=>by simp only[zma];rw[zm5 W vars d (fun p hp=>h p (by omega)),h d (by omega)]
theorem zxx(W vars:Nat)(vals:List Nat){a b:Nat}(h:a<=b):zma W vars vals a<=zma W vars vals b:=by
 induction h with
 |refl=>exact Nat.le_refl _
 |step h ih=>simp only[zma];omega
theorem zxw{W vars d f v:Nat}{vals:List Nat}(hd:d < vars)(hl:d < vals.length)(hf:f<=v)(hv:v < W):zgo W vars (d+1) (vals.set d v) 0 < zgo W vars d vals f/\zgo W vars d (vals.set d v) (v+1) < zgo W vars d vals f:=by
 have e1:zma W vars (vals.set d v) d=zma W vars vals d:=zm5 W vars d fun p hp=>by rw[zal,if_neg (by omega)]
 have e2:(vals.set d v).getD d 0=v:=by rw[zal,if_pos ⟨rfl,hl⟩]
 have e3:(if d+1 < vars then zoj W vars (d+1) 0 else 1)=zxv W (vars - d - 1):=by
  split
  ·obtain⟨j,hj⟩:∃ j,vars - d - 1=j+1:=⟨vars - d - 2,by omega⟩
   rw[hj]
   unfold zoj
   rw[show vars - (d+1) - 1=j by omega,Nat.sub_zero]
   rfl
  ·rw[show vars - d - 1=0 by omega];rfl
 have e4:zoj W vars d f=zoj W vars d (v+1)+(v+1 - f) * (1+zxv W (vars - d - 1)):=by
  unfold zoj
  rw[show W - f=(W - (v+1))+(v+1 - f) by omega,Nat.add_mul]
  omega
 have e5:1 * (1+zxv W (vars - d - 1))<=(v+1 - f) * (1+zxv W (vars - d - 1)):=Nat.mul_le_mul_right _ (by omega)
 refine⟨?_,?_⟩
 ·unfold zgo
  rw[if_pos hd,e3]
  simp only[zma]
  rw[e1,e2]
  omega
 ·unfold zgo
  rw[if_pos hd,if_pos hd,e1]
  omega
theorem zr2(W vars d:Nat)(vals:List Nat)(f:Nat):1<=zgo W vars d vals f:=by
 unfold zgo
 split
 ·unfold zoj;omega
 ·omega
theorem zo1{W vars d b f:Nat}{vals:List Nat}(hd:d<=vars)(hb:b < d):zgo W vars b vals (vals.getD b 0+1) < zgo W vars d vals f:=by
 have e1:zgo W vars b vals (vals.getD b 0+1)=zma W vars vals (b+1):=by
  unfold zgo;rw[if_pos (by omega)];rfl
 have e2:=zxx W vars vals (show b+1<=d by omega)
 have e3:1<=if d < vars then zoj W vars d f else 1:=by
  split
  ·unfold zoj;omega
  ·omega
 rw[e1]
 unfold zgo
 omega
def z3a(r:zaf)(Ts Ns:List zad)(W:Nat)(E:zaq->Prop)(M:Nat)(J':zat):Bool->Prop
 |true=>JAt r Ts Ns W J' r.vars/\Left r Ts Ns E r.vars J'.values 0/\zgo W r.vars r.vars J'.values 0<=M
 |false=>(∀ y,zrf r Ts Ns y->E (zcp r.head y))/\zh7 r Ts Ns J'
theorem zh7.ok{r:zaf}{Ts Ns:List zad}{W:Nat}{J:zat}(h:zh7 r Ts Ns J)(hf:zdo r Ts W):zua J:=by
 intro i
 cases hs:J.sides[i]? with
 |none =>
  have:J.sides.getD i zea.zero=zea.zero:=by simp[List.getD,hs]
  rw[this]
  intro a ha
  simp[zea.zero] at ha
 |some s =>
  have:J.sides.getD i zea.zero=s:=by simp[List.getD,hs]
  rw[this]
  have hT:=h.side hs
  have hi:i < r.plain.length:=by rw[← hf.len];exact(List.getElem?_eq_some_iff.1 hT).1
  obtain⟨⟨pth,hinv⟩,_⟩:=(hf.ok i _ _ (List.getElem?_eq_getElem hi) hT).1
  exact hinv.node
theorem zvq{r:zaf}{Ts Ns:List zad}{W:Nat}(hr:zfv r)(hf:zdo r Ts W)(E:zaq->Prop)(A:Nat)(hA:W * (r.plain.length+1)+r.plain.length<=A) :
  ∀(n:Nat) (J:zat) (d f:Nat),JAt r Ts Ns W J d->d<=r.vars->(d < r.vars->J.from.getD d 0=f)->Left r Ts Ns E d J.values f->zgo W r.vars d J.values f+A < n->∃ J' b,ze0 n J (d:Nat)=some (J',b)/\z3a r Ts Ns W E (zgo W r.vars d J.values f) J' b:=by
 intro n
 induction n with
 |zero=>intro J d f _ _ _ _ h;omega
 |succ n ih =>
  intro J d f h hd hfr hL hn
  have hv5:=hr.vars
  have hpos:=zr2 W r.vars d J.values f
  unfold ze0
  have hjv:=h.stat.vars
  by_cases hdv:d < r.vars
  ·rw[if_pos ⟨by omega,by rw[hjv];omega,by omega⟩]
   simp only[Int.toNat_natCast]
   have hhold:=h.stat.holdsAt (show d < 5 by omega)
   have hne:J.holds.getD d []≠[]:=by
    rw[hhold]
    obtain⟨l,hl1,hl2⟩:=hr.safe d hdv
    obtain⟨i,hi,rfl⟩:=List.getElem_of_mem hl1
    intro q
    have:=holds_of (List.getElem?_eq_getElem hi) hl2
    rw[q] at this
    cases this
   have hlen:(zbw r d).length<=r.plain.length:=by
    unfold zbw
    refine Nat.le_trans (List.length_filterMap_le _ _) ?_
    simp
   have hsz:W * ((zbw r d).length+1)+(zbw r d).length<=A:=by
    have:W * ((zbw r d).length+1)<=W * (r.plain.length+1):=Nat.mul_le_mul_left _ (by omega)
    omega
   obtain⟨J1,res,a1,a2,a3⟩:=zuh W J d (J.from.getD d 0) n (by omega) (h.stat.ok hf) hne (by
    rw[hhold]
    intro x hx
    obtain⟨_,_,_,_,_,_,_,q,_⟩:=h.hold hr hf hx
    exact q) (by
    rw[hhold]
    intro x hx v hv
    obtain⟨l,s,_,q2,_,_,_,_,_,q8,_⟩:=h.hold hr hf hx
    unfold zhw at hv
    obtain⟨b,hb⟩:=Option.isSome_iff_exists.1 hv
    have:=(zgp hb).2
    rw[show J.sides.getD x.1 zea.zero=s by simp[List.getD,q2]] at this
    omega) (by rw[hhold];omega)
   rw[hhold] at a3
   rw[hfr hdv] at a1 a3
   rw[hfr hdv,a1]
   have h1:=h.same a2
   have hvals:J1.values=J.values:=by rw[a2]
   have hfrom:J1.from=J.from:=by rw[a2]
   have hold1:∀ x v,zhw J1 x v=zhw J x v:=fun x v=>zx8 a2 x v
   cases res with
   |none =>
    simp only
    have hbk:J1.backs.getD d 0=zdz r (d:Nat):=by rw[h1.stat.backs];simp[List.getD,show d < 5 by omega]
    rw[hbk]
    obtain⟨b1,b2,b3,b4,b5⟩:=zlf r (known:=((d:Nat):Int)) (by omega)
    have key:∀ y,zrf r Ts Ns y->(∀ p:Nat,(p:Int)<=zdz r (d:Nat)->y.getD p 0=J.values.getD p 0)->E (zcp r.head y):=by
     intro y hy ha
     obtain⟨m1,m2⟩:=h.mix hr hf hd hy ha
     have hlow:∀ p,p < d->(z5m d J.values y).getD p 0=J.values.getD p 0:=fun p hp=>by rw[zu8 d _ _ (by omega),if_pos hp]
     rw[← m2]
     rcases hL _ m1 with q|⟨_,q⟩|⟨i,q1,_,q3⟩
     ·exact q
     ·obtain⟨x,hx,hx2⟩:=a3 _ q
      have:=h.sol hr hf hdv m1 hlow x hx
      rw[hx2] at this
      cases this
     ·rw[hlow i q1] at q3;omega
    by_cases hneg:zdz r (d:Nat) < 0
    ·have hbm:zdz r (d:Nat)=-1:=by omega
     rw[hbm]
     cases n with
     |zero=>omega
     |succ n =>
      refine⟨J1,false,?_,?_,h1.stat⟩
      ·unfold ze0
       rw[if_neg (by omega)]
       have:¬ ((-1:Int) ≥ (J1.vars:Int)):=by omega
       simp[this]
      ·intro y hy
       exact key y hy fun p hp=>by omega
    ·obtain⟨b,hb⟩:∃ b:Nat,zdz r (d:Nat)=(b:Int):=⟨(zdz r (d:Nat)).toNat,by omega⟩
     rw[hb] at key b1 ⊢
     have hbd:b < d:=by omega
     have hM:=zo1 (W:=W) (vars:=r.vars) (f:=f) (vals:=J.values) hd hbd
     obtain⟨J',bb,s1,s2⟩:=ih J1 b (J.values.getD b 0+1) (h1.back (by omega)) (by omega) (fun _=>by rw[hfrom,h.from b hbd]) (by
      rw[hvals]
      intro y hy
      rcases hL y hy with q|⟨q1,q2⟩|⟨i,q1,q2,q3⟩
      ·exact Or.inl q
      ·exact Or.inl (key y hy fun p hp=>q1 p (by omega))
      ·by_cases hib:i<=b
       ·refine Or.inr ?_
        by_cases hib2:i=b
        ·subst hib2
         exact Or.inl ⟨q2,by omega⟩
        ·exact Or.inr ⟨i,by omega,q2,q3⟩
       ·exact Or.inl (key y hy fun p hp=>q2 p (by omega))) (by rw[hvals];omega)
     refine⟨J',bb,s1,?_⟩
     rw[hvals] at s2
     cases bb with
     |true=>exact⟨s2.1,s2.2.1,by have:=s2.2.2;omega⟩
     |false=>exact s2
   |some v =>
    simp only
    obtain⟨c1,c2,c3⟩:=a3
    have hvW:v < W:=by
     obtain⟨x,hx⟩:=List.exists_mem_of_ne_nil _ (hhold ▸ hne)
     obtain⟨l,s,_,q2,_,_,_,_,_,q8,_⟩:=h.hold hr hf hx
     have hv:=c2 x hx
     unfold zhw at hv
     obtain⟨b,hb⟩:=Option.isSome_iff_exists.1 hv
     have:=(zgp hb).2
     rw[show J.sides.getD x.1 zea.zero=s by simp[List.getD,q2]] at this
     omega
    obtain⟨t1,t2,t3,t4,t5,t6⟩:=h1.take hr hf hdv (v:=v) (fun x hx=>by rw[hold1];exact c2 x hx) hvW
    rw[hvals] at t1
    have hvl:d < J.values.length:=by rw[h.stat.vlen];omega
    obtain⟨m1,m2⟩:=zxw (W:=W) (vars:=r.vars) (f:=f) (vals:=J.values) hdv hvl c1 hvW
    have hnosol:∀ y,zrf r Ts Ns y->(∀ p,p < d->y.getD p 0=J.values.getD p 0)->f<=y.getD d 0->v<=y.getD d 0:=by
     intro y hy ha hq
     false_or_by_contra
     rename_i hlt
     obtain⟨x,hx,hx2⟩:=c3 (y.getD d 0) hq (by omega)
     have:=h.sol hr hf hdv hy ha x hx
     rw[hx2] at this
     cases this
    have hset:∀ p,p < d->(J.values.set d v).getD p 0=J.values.getD p 0:=fun p hp=>by rw[zal,if_neg (by omega)]
    have hsetd:(J.values.set d v).getD d 0=v:=by rw[zal,if_pos ⟨rfl,hvl⟩]
    by_cases hb:zbx (zft J1 d v) (d+1)=true
    ·rw[if_pos hb]
     obtain⟨x,hx,hk,hm⟩:=(zqn t5.stat (d+1)).1 hb
     rw[t1] at hm
     obtain⟨J',bb,s1,s2⟩:=ih (zft J1 d v) d (v+1) t5 hd (fun _=>t3) (by
      rw[t1]
      intro y hy
      rcases hL y hy with q|⟨q1,q2⟩|⟨i,q1,q2,q3⟩
      ·exact Or.inl q
      ·have hge:=hnosol y hy q1 q2
       by_cases hyv:y.getD d 0=v
       ·have:=hy.2 x hx
        rw[zfs x.1 (y:=J.values.set d v) fun p hp=>?_] at this
        ·rw[this] at hm;cases hm
        ·have hpk:=zkq x.1 hp
         by_cases hpd:p=d
         ·rw[hpd,hsetd,hyv]
         ·rw[hset p (by omega),q1 p (by omega)]
       ·exact Or.inr (Or.inl ⟨fun p hp=>by rw[hset p hp];exact q1 p hp,by omega⟩)
      ·exact Or.inr (Or.inr ⟨i,q1,fun p hp=>by rw[hset p (by omega)];exact q2 p hp,by rw[hset i q1];exact q3⟩)) (by rw[t1];omega)
     refine⟨J',bb,s1,?_⟩
     rw[t1] at s2
     cases bb with
     |true=>exact⟨s2.1,s2.2.1,by have:=s2.2.2;omega⟩
     |false=>exact s2
    ·rw[if_neg hb]
     have hb:zbx (zft J1 d v) (d+1)=false:=by simpa using hb
     have e:((d:Nat):Int)+1=((d+1:Nat):Int):=by omega
     rw[e]
     obtain⟨J',bb,s1,s2⟩:=ih (zft J1 d v) (d+1) 0 (t6 hb) (by omega) (fun _=>t4 (by omega)) (by
      rw[t1]
      intro y hy
      rcases hL y hy with q|⟨q1,q2⟩|⟨i,q1,q2,q3⟩
      ·exact Or.inl q
      ·have hge:=hnosol y hy q1 q2
       by_cases hyv:y.getD d 0=v
       ·refine Or.inr (Or.inl ⟨fun p hp=>?_,Nat.zero_le _⟩)
        by_cases hpd:p=d
        ·rw[hpd,hsetd,hyv]
        ·rw[hset p (by omega)];exact q1 p (by omega)
       ·exact Or.inr (Or.inr ⟨d,by omega,fun p hp=>by rw[hset p hp];exact q1 p hp,by rw[hsetd];omega⟩)
      ·exact Or.inr (Or.inr ⟨i,by omega,fun p hp=>by rw[hset p (by omega)];exact q2 p hp,by rw[hset i q1];exact q3⟩)) (by rw[t1];omega)
     refine⟨J',bb,s1,?_⟩
     rw[t1] at s2
     cases bb with
     |true=>exact⟨s2.1,s2.2.1,by have:=s2.2.2;omega⟩
     |false=>exact s2
  ·have hdd:d=r.vars:=by omega
   subst hdd
   rw[if_neg (by rw[hjv];omega)]
   refine⟨J,true,by simp[hjv],h,?_,?_⟩
   ·intro y hy
    rcases hL y hy with q|⟨q1,_⟩|q
    ·exact Or.inl q
    ·exact Or.inr (Or.inl ⟨q1,Nat.zero_le _⟩)
    ·exact Or.inr (Or.inr q)
   ·unfold zgo;rw[if_neg hdv,if_neg hdv];exact Nat.le_refl _
def zt8(r:zaf)(Ts Ns:List zad)(W:Nat)(E:zaq->Prop)(J:zat)(M:Nat):Prop :=
 J.depth=-1/\zh7 r Ts Ns J/\(∀ y,zrf r Ts Ns y->E (zcp r.head y))∨(∀(i:Nat) (T:zad),Ts[i]?=some T->T.count≠0)/\∃(d f:Nat),J.depth=(d:Nat)/\d<=r.vars/\JAt r Ts Ns W J d/\(d < r.vars->J.from.getD d 0=f)/\Left r Ts Ns E d J.values f/\zgo W r.vars d J.values f<=M
theorem zhu{d:Nat}(h0:d≠0)(h3:d<=3):zbp d=d:=by unfold zbp;by_cases h1:d < 1 <;> by_cases h2:d > 3 <;> simp[h1,h2] <;> omega
theorem z7i.count{T:zad}{l:zai}{y:List Nat}(h:z7i T l y)(hT:zd0 T)(hd:T.depth=zbp (za7 l))(h3:l.terms.length<=3):T.count≠0:=by
 by_cases h0:za7 l=0
 ·exact h.1 h0
 ·have hs:=h.2 h0
  have h5:=zj6 l 5
  rw[← zd4] at h5
  have hm:zb1 l y 5∈keysT T:=(zb0 T _).2 ⟨by rw[zgt,← zd4,hd,zhu h0 (by omega)],hs⟩
  have:=List.length_pos_of_mem hm
  rw[hT.cnt] at this
  omega
def zf2(r:zaf)(plain nots:List zad):zat:={ head:=r.head,vars:=r.vars,sides:=plain.map (fun T=>⟨T,[0,0,0]⟩),bars:=(r.nots.zip nots).map (fun x=>⟨x.1,zdg x.1,x.2⟩),holds:=(List.range 5).map (zbw r),backs:=(List.range 5).map (fun p=>zdz r (p:Nat)),last:=zdz r r.vars,values:=[0,0,0,0,0],«from»:=[0,0,0,0,0],depth:=if plain.any (fun T=>T.count == 0) then -1 else 0,moves:=0 }
theorem zu1(r:zaf)(Ts Ns:List zad):za0 r Ts Ns=if zbx (zf2 r Ts Ns) 0 then{ zf2 r Ts Ns with depth:=-1 } else zf2 r Ts Ns:=rfl
theorem zpf(r:zaf)(Ts Ns:List zad):∃ dd,za0 r Ts Ns={ zf2 r Ts Ns with depth:=dd }/\dd=if zbx (za0 r Ts Ns) 0=true then -1 else if Ts.any (fun T=>T.count == 0)=true then -1 else 0:=by
 have hbe:∀ dd:Int,zbx { zf2 r Ts Ns with depth:=dd } 0=zbx (zf2 r Ts Ns) 0:=fun _=>rfl
 rw[zu1]
 by_cases hb:zbx (zf2 r Ts Ns) 0=true
 ·rw[if_pos hb]
  exact⟨-1,rfl,by rw[hbe,if_pos hb]⟩
 ·rw[if_neg hb]
  exact⟨_,rfl,by rw[if_neg hb]⟩
theorem zsl(r:zaf)(Ts Ns:List zad):zh7 r Ts Ns (za0 r Ts Ns)/\(za0 r Ts Ns).values=[0,0,0,0,0]/\(za0 r Ts Ns).from=[0,0,0,0,0]/\(za0 r Ts Ns).sides=Ts.map (fun T=>⟨T,[0,0,0]⟩):=by
 obtain⟨dd,h,_⟩:=zpf r Ts Ns
 rw[h]
 exact⟨⟨rfl,rfl,rfl,rfl,rfl,rfl,by simp[zf2,Function.comp_def],rfl,rfl⟩,rfl,rfl,rfl⟩
theorem zsk{r:zaf}{Ts Ns:List zad}{W:Nat}(hr:zfv r)(hf:zdo r Ts W)(E:zaq->Prop):zt8 r Ts Ns W E (za0 r Ts Ns) (zgo W r.vars 0 [] 0):=by
 obtain⟨hst,hv,hfr,hsd⟩:=zsl r Ts Ns
 have hnosol:(∃(i:Nat) (T:zad),Ts[i]?=some T/\T.count=0)->∀ y,¬ zrf r Ts Ns y:=by
  rintro⟨i,T,h1,h2⟩ y hy
  have hi:i < r.plain.length:=by rw[← hf.len];exact(List.getElem?_eq_some_iff.1 h1).1
  have hl:=List.getElem?_eq_getElem hi
  obtain⟨q1,q2,_⟩:=hf.ok i _ T hl h1
  exact(hy.1 i _ T hl h1).count q1 q2 (hr.terms _ (List.mem_of_getElem? hl)) h2
 have hnobar:zbx (za0 r Ts Ns) 0=true->∀ y,¬ zrf r Ts Ns y:=by
  intro hb y hy
  obtain⟨x,hx,hk,hm⟩:=(zqn hst 0).1 hb
  have:=hy.2 x hx
  rw[zfs x.1 (y:=(za0 r Ts Ns).values) fun p hp=>by have:=zkq x.1 hp;omega] at this
  rw[this] at hm
  cases hm
 have hdep:(za0 r Ts Ns).depth=if zbx (za0 r Ts Ns) 0=true then -1 else if Ts.any (fun T=>T.count == 0)=true then -1 else 0:=by
  obtain⟨dd,h1,h2⟩:=zpf r Ts Ns
  rw[← h2,h1]
 by_cases hb:zbx (za0 r Ts Ns) 0=true
 ·left
  rw[if_pos hb] at hdep
  exact⟨hdep,hst,fun y hy=>absurd hy (hnobar hb y)⟩
 ·rw[if_neg hb] at hdep
  by_cases hz:Ts.any (fun T=>T.count == 0)=true
  ·left
   rw[if_pos hz] at hdep
   refine⟨hdep,hst,fun y hy=>absurd hy (hnosol ?_ y)⟩
   obtain⟨T,h1,h2⟩:=List.any_eq_true.1 hz
   obtain⟨i,hi,rfl⟩:=List.getElem_of_mem h1
   exact⟨i,_,List.getElem?_eq_getElem hi,by simpa using h2⟩
  ·right
   rw[if_neg hz] at hdep
   refine⟨fun i T hT hc=>hz (List.any_eq_true.2 ⟨T,List.mem_of_getElem? hT,by simp[hc]⟩),0,0,hdep,Nat.zero_le _,⟨hst,fun i l s hl hs=>?_,fun x hx hk=>?_,fun i hi=>by omega,fun i hi=>by omega⟩,fun _=>by rw[hfr];rfl,fun y _=>Or.inr (Or.inl ⟨fun p hp=>by omega,Nat.zero_le _⟩),?_⟩
   ·rw[hsd] at hs
    simp only[List.getElem?_map,Option.map_eq_some_iff] at hs
    obtain⟨T,hT,rfl⟩:=hs
    have hp:zb1 l (za0 r Ts Ns).values 0=[]:=rfl
    refine⟨rfl,fun k hk h3=>?_,by rw[hp];rfl⟩
    have:k=0:=by simp[zcb] at hk;exact hk
    subst this
    rw[hp];rfl
   ·cases hm:zes x.2 (zcp x.1 (za0 r Ts Ns).values) with
    |none=>rfl
    |some m=>exact absurd ((zqn hst 0).2 ⟨x,hx,by omega,by rw[hm];rfl⟩) hb
   ·unfold zgo;exact Nat.le_refl _
theorem z1f{r:zaf}{Ts Ns:List zad}{W:Nat}(hr:zfv r)(hf:zdo r Ts W)(E:zaq->Prop)(A:Nat)(hA:W * (r.plain.length+1)+r.plain.length<=A)(n:Nat)(J:zat)(M:Nat)(h:zt8 r Ts Ns W E J M)(hn:M+A+1 < n) :
  ∃ J' b,zs9 n J=some (J',b)/\(b=false->∀ y,zrf r Ts Ns y->E (zcp r.head y))/\(b=true->zrf r Ts Ns J'.values/\J'.head=r.head/\∃ M',M' < M/\zt8 r Ts Ns W (fun x=>E x∨x=zcp r.head J'.values) J' M'):=by
 unfold zs9
 rcases h with ⟨h1,h2,h3⟩|⟨hcnt,d,f,h1,h2,h3,h4,h5,h6⟩
 ·rw[h1]
  obtain⟨k,rfl⟩:∃ k,n=k+1:=⟨n - 1,by omega⟩
  refine⟨{ J with depth:=-1 },false,?_,fun _=>h3,fun q=>by cases q⟩
  unfold ze0
  rw[if_neg (by omega)]
  have:¬ ((-1:Int) ≥ (J.vars:Int)):=by omega
  simp[this]
 ·rw[h1]
  obtain⟨J',b,s1,s2⟩:=zvq hr hf E A hA n J d f h3 h2 h4 h5 (by omega)
  rw[s1]
  simp only
  cases b with
  |false=>exact⟨_,false,rfl,fun _=>s2.1,fun q=>by cases q⟩
  |true =>
   obtain⟨t1,t2,t3⟩:=s2
   have hv5:=hr.vars
   have hsol:zrf r Ts Ns J'.values:=by
    refine⟨fun i l T hl hT=>⟨fun _=>hcnt i T hT,fun _=>?_⟩,fun x hx=>?_⟩
    ·obtain⟨s,hs⟩:=t1.stat.some hf hl
     have hrow:=t1.stat.side hs
     rw[hT] at hrow
     simp only[Option.some.injEq] at hrow
     rw[zyu hv5 (hr.plain l (List.mem_of_getElem? hl)),hrow]
     exact(t1.nodes i l s hl hs).2.2
    ·exact t1.nob x hx (zso x.1 (hr.nots x.1 (List.of_mem_zip hx).1))
   refine⟨_,true,rfl,fun q=>(by cases q),fun _=>⟨hsol,t1.stat.head,?_⟩⟩
   simp only[if_true]
   obtain⟨b1,b2,b3,_,_⟩:=zlf r (known:=((r.vars:Nat):Int)) (by omega)
   have hlast:=t1.stat.last
   have key:∀ y,(∀ p:Nat,(p:Int)<=zdz r (r.vars:Nat)->y.getD p 0=J'.values.getD p 0)->zcp r.head y=zcp r.head J'.values:=fun y ha=>zfs r.head fun p hp=>ha p (by
    have h1:=hr.head p hp
    have:=zqr r.head (known:=((r.vars:Nat):Int)) hp (by omega)
    omega)
   have hstat2:zh7 r Ts Ns { J' with depth:=J'.last }:=⟨t1.stat.head,t1.stat.vars,t1.stat.holds,t1.stat.backs,t1.stat.last,t1.stat.bars,t1.stat.sides,t1.stat.vlen,t1.stat.flen⟩
   have hpos:=zr2 W r.vars d J.values f
   by_cases hneg:zdz r (r.vars:Nat) < 0
   ·refine⟨M - 1,by omega,Or.inl ⟨by show J'.last=-1;rw[hlast];omega,hstat2,fun y hy=>?_⟩⟩
    exact Or.inr (key y fun p hp=>by omega)
   ·obtain⟨bb,hb⟩:∃ b:Nat,zdz r (r.vars:Nat)=(b:Int):=⟨(zdz r (r.vars:Nat)).toNat,by omega⟩
    rw[hb] at b1 key
    have hbd:bb < r.vars:=by omega
    have hM:=zo1 (W:=W) (vars:=r.vars) (f:=0) (vals:=J'.values) (Nat.le_refl _) hbd
    have hback:=t1.back (b:=bb) (by omega)
    refine⟨zgo W r.vars bb J'.values (J'.values.getD bb 0+1),by omega,Or.inr ⟨hcnt,bb,J'.values.getD bb 0+1,by show J'.last=_;rw[hlast,hb],by omega,⟨hstat2,hback.nodes,hback.nob,hback.from,hback.small⟩,fun _=>t1.from bb hbd,fun y hy=>?_,Nat.le_refl _⟩⟩
    rcases t2 y hy with q|⟨q1,_⟩|⟨i,q1,q2,q3⟩
    ·exact Or.inl (Or.inl q)
    ·exact Or.inl (Or.inr (key y fun p hp=>q1 p (by omega)))
    ·by_cases hib:i<=bb
     ·refine Or.inr ?_
      by_cases hib2:i=bb
      ·subst hib2
       exact Or.inl ⟨q2,by omega⟩
      ·exact Or.inr ⟨i,by omega,q2,q3⟩
     ·exact Or.inl (Or.inr (key y fun p hp=>q2 p (by omega)))
structure zg9 (l:zai) (a W:Nat):Prop where
 len:l.terms.length=a
 le3:a<=3
 lev:∀ t∈l.terms,t.var=true->t.num < 5/\zbj l t.num=some t.level
 con:∀ t∈l.terms,t.var=false->t.num < W
def Canon(a:Nat)(row:zaq):Prop:=row.length=3/\∀ i,a<=i->row.getD i 0=0
theorem zk2(l:zai)(y:List Nat){i:Nat}(hi:i < 3):(zcp l y).getD i 0=rowCell l y i:=by
 match i,hi with
 |0,_=>rfl
 |1,_=>rfl
 |2,_=>rfl
theorem zi5{l:zai}{a W:Nat}(h:zg9 l a W)(y:List Nat):Canon a (zcp l y):=by
 refine⟨rfl,fun i hi=>?_⟩
 by_cases h3:i < 3
 ·rw[zk2 l y h3]
  unfold rowCell
  rw[if_neg (by rw[h.len];omega)]
 ·simp[List.getD,zcp]
  rw[List.getElem?_eq_none (by simp;omega)];rfl
theorem zry{a:Nat}{x y:zaq}(hx:Canon a x)(hy:Canon a y)(h:∀ i,i < a->i < 3->x.getD i 0=y.getD i 0):x=y:=by
 refine List.ext_getElem (by rw[hx.1,hy.1]) fun i h1 h2=>?_
 have e:x.getD i 0=y.getD i 0:=by
  by_cases hi:i < a
  ·exact h i hi (by rw[hx.1] at h1;exact h1)
  ·rw[hx.2 i (by omega),hy.2 i (by omega)]
 simpa [List.getD,h1,h2] using e
theorem z5g{l:zai}{p d:Nat}(hp:zc8 l p=true)(hd:p < d):(zcb l d)[(zcb l p).length]?=some p:=by
 obtain⟨t,ht⟩:=zra l (show p+1<=d by omega)
 rw[← ht,zef,if_pos hp]
 simp
theorem zmk{l:zai}{p j:Nat}(h:zbj l p=some j)(hp:p < 5):(zcb l 5)[j]?=some p:=by
 rw[znh] at h
 split at h
 ·rename_i hh
  simp only[Option.some.injEq] at h
  subst h
  exact z5g hh hp
 ·cases h
theorem zqs{l:zai}{p j:Nat}(h:zbj l p=some j)(hp:p < 5):j < za7 l:=by
 have:=zmk h hp
 rw[zd4]
 exact(List.getElem?_eq_some_iff.1 this).1
theorem zlg{l:zai}{a W:Nat}(h:zg9 l a W):za7 l<=3:=by
 have:=zj6 l 5
 rw[zd4]
 have:=h.len
 have:=h.le3
 omega
theorem zg9.leveled{l:zai}{a W:Nat}(h:zg9 l a W){t:zbh}(ht:t∈l.terms):leveled t=t.var:=by
 unfold Go.Proofs.YteampbddflhngabGreat.leveled
 cases hv:t.var with
 |false=>rfl
 |true =>
  obtain⟨h1,h2⟩:=h.lev t ht hv
  have:=zqs h2 h1
  have:=zlg h
  simp;omega
theorem zec(l:zai)(row f:zaq)(i:Nat):(zbq l row f i).length=f.length:=by unfold zbq;split <;> simp
theorem zhl(l:zai)(row:zaq):(zc3 l row).length=3:=by unfold zc3;rw[zec,zec,zec];rfl
theorem zli{l:zai}{row:zaq}{g:Nat->Nat}(hg:∀ i (hi:i < l.terms.length),leveled l.terms[i]=true->row.getD i 0=g l.terms[i].level){f:zaq}{m:Nat}(hl:f.length=3)
  (hf:∀ j,j < 3->(f.getD j 0=g j∨f.getD j 0=0)/\((∃ i,∃ hi:i < l.terms.length,i < m/\leveled l.terms[i]=true/\l.terms[i].level=j)->f.getD j 0=g j)/\((¬ ∃ i,∃ hi:i < l.terms.length,leveled l.terms[i]=true/\l.terms[i].level=j)->f.getD j 0=0)) :
  ∀ j,j < 3->((zbq l row f m).getD j 0=g j∨(zbq l row f m).getD j 0=0)/\((∃ i,∃ hi:i < l.terms.length,i < m+1/\leveled l.terms[i]=true/\l.terms[i].level=j)->(zbq l row f m).getD j 0=g j)/\((¬ ∃ i,∃ hi:i < l.terms.length,leveled l.terms[i]=true/\l.terms[i].level=j)->(zbq l row f m).getD j 0=0):=by
 intro j hj
 obtain⟨f0,f1,f2⟩:=hf j hj
 unfold zbq
 by_cases hm:m < l.terms.length/\leveled (l.terms.getD m ⟨false,0,0⟩)=true
 ·rw[if_pos hm]
  have e:l.terms.getD m ⟨false,0,0⟩=l.terms[m]'hm.1:=by simp[List.getD,hm.1]
  rw[e] at hm ⊢
  rw[zal]
  by_cases hjm:l.terms[m].level=j/\l.terms[m].level < f.length
  ·rw[if_pos hjm]
   have:=hg m hm.1 hm.2
   rw[hjm.1] at this
   exact⟨Or.inl this,fun _=>this,fun q=>absurd ⟨m,hm.1,hm.2,hjm.1⟩ q⟩
  ·rw[if_neg hjm]
   refine⟨f0,?_,f2⟩
   rintro⟨i,hi,q1,q2,q3⟩
   by_cases him:i=m
   ·subst him
    exact absurd ⟨q3,by rw[q3,hl];exact hj⟩ hjm
   ·exact f1 ⟨i,hi,by omega,q2,q3⟩
 ·rw[if_neg hm]
  refine⟨f0,?_,f2⟩
  rintro⟨i,hi,q1,q2,q3⟩
  by_cases him:i=m
  ·subst him
   exact absurd ⟨hi,by simpa [List.getD,hi] using q2⟩ hm
  ·exact f1 ⟨i,hi,by omega,q2,q3⟩
theorem z0m{l:zai}{a W:Nat}(h:zg9 l a W){row:zaq}{g:Nat->Nat}(hg:∀ i (hi:i < l.terms.length),leveled l.terms[i]=true->row.getD i 0=g l.terms[i].level)(j:Nat)(hj:j < 3):((∃ i,∃ hi:i < l.terms.length,leveled l.terms[i]=true/\l.terms[i].level=j)->(zc3 l row).getD j 0=g j)/\((¬ ∃ i,∃ hi:i < l.terms.length,leveled l.terms[i]=true/\l.terms[i].level=j)->(zc3 l row).getD j 0=0):=by
 have h0:∀ j,j < 3->((([0,0,0]:zaq).getD j 0=g j∨([0,0,0]:zaq).getD j 0=0)/\((∃ i,∃ hi:i < l.terms.length,i < 0/\leveled l.terms[i]=true/\l.terms[i].level=j)->([0,0,0]:zaq).getD j 0=g j)/\((¬ ∃ i,∃ hi:i < l.terms.length,leveled l.terms[i]=true/\l.terms[i].level=j)->([0,0,0]:zaq).getD j 0=0)):=by
  intro j hj
  have hz:([0,0,0]:zaq).getD j 0=0:=by
   match j,hj with
   |0,_=>rfl
   |1,_=>rfl
   |2,_=>rfl
  exact⟨Or.inr hz,fun⟨i,_,q,_⟩=>by omega,fun _=>hz⟩
 have h1:=zli hg rfl h0
 have h2:=zli hg (by rw[zec];rfl) h1
 have h3:=zli hg (by rw[zec,zec];rfl) h2
 obtain⟨_,q2,q3⟩:=h3 j hj
 refine⟨fun⟨i,hi,r1,r2⟩=>q2 ⟨i,hi,?_,r1,r2⟩,q3⟩
 have:=h.len
 have:=h.le3
 omega
theorem zl1{l:zai}{a W:Nat}(h:zg9 l a W){row f:zaq}:zbr l row=some f↔f=zc3 l row/\∀ i (hi:i < l.terms.length),zd2 l.terms[i] (row.getD i 0) (zc3 l row)=true:=by
 have hall:(zaz l row (zc3 l row) 0 && zaz l row (zc3 l row) 1 && zaz l row (zc3 l row) 2)=true↔∀ i (hi:i < l.terms.length),zd2 l.terms[i] (row.getD i 0) (zc3 l row)=true:=by
  have key:∀ i,zaz l row (zc3 l row) i=true↔∀ hi:i < l.terms.length,zd2 l.terms[i] (row.getD i 0) (zc3 l row)=true:=by
   intro i
   unfold zaz
   simp only[Bool.or_eq_true,decide_eq_true_eq]
   constructor
   ·rintro(q|q) hi
    ·omega
    ·simpa [List.getD,hi] using q
   ·intro q
    by_cases hi:i < l.terms.length
    ·exact Or.inr (by simpa [List.getD,hi] using q hi)
    ·exact Or.inl (by omega)
  simp only[Bool.and_eq_true,key]
  constructor
  ·rintro⟨⟨q0,q1⟩,q2⟩ i hi
   have:=h.len
   have:=h.le3
   have hi3:i=0∨i=1∨i=2:=by omega
   rcases hi3 with rfl|rfl|rfl
   ·exact q0 hi
   ·exact q1 hi
   ·exact q2 hi
  ·intro q
   exact⟨⟨fun hi=>q 0 hi,fun hi=>q 1 hi⟩,fun hi=>q 2 hi⟩
 unfold zbr
 by_cases hc:(zaz l row (zc3 l row) 0 && zaz l row (zc3 l row) 1 && zaz l row (zc3 l row) 2)=true
 ·rw[if_pos hc]
  simp only[Option.some.injEq]
  exact⟨fun q=>⟨q.symm,hall.1 hc⟩,fun q=>q.1.symm⟩
 ·rw[if_neg hc]
  constructor
  ·intro q;cases q
  ·intro q;exact absurd (hall.2 q.2) hc
theorem z1h{l:List Nat}(h:l.Nodup){i j:Nat}(hi:i < l.length)(hj:j < l.length)(e:l[i]=l[j]):i=j:=by
 have hp:=List.pairwise_iff_getElem.1 h
 rcases Nat.lt_trichotomy i j with q|q|q
 ·exact absurd e (hp i j hi hj q)
 ·exact q
 ·exact absurd e.symm (hp j i hj hi q)
theorem zym{l:zai}{a W:Nat}(h:zg9 l a W)(y:List Nat):∃ f,zbr l (zcp l y)=some f/\f.length=3/\f.take (za7 l)=zb1 l y 5/\∀ j,za7 l<=j->f.getD j 0=0:=by
 have hat:∀ i (hi:i < l.terms.length),(zcp l y).getD i 0=atT l.terms[i] y:=fun i hi=>by
  have:=h.len
  have:=h.le3
  rw[zk2 l y (by omega)]
  unfold rowCell
  rw[if_pos hi]
  simp[List.getD,hi]
 have hg:∀ i (hi:i < l.terms.length),leveled l.terms[i]=true->(zcp l y).getD i 0=(zb1 l y 5).getD l.terms[i].level 0:=fun i hi hl=>by
  have hm:=List.getElem_mem hi
  rw[h.leveled hm] at hl
  obtain⟨h1,h2⟩:=h.lev _ hm hl
  rw[hat i hi]
  unfold atT
  rw[if_pos (by simp[hl,h1])]
  have:=zmk h2 h1
  unfold zb1
  simp[List.getD,this]
 have hfa:=fun j hj=>z0m h (row:=zcp l y) (g:=fun j=>(zb1 l y 5).getD j 0) hg j hj
 have hlv:∀ i (hi:i < l.terms.length),leveled l.terms[i]=true->l.terms[i].level < za7 l:=fun i hi hl=>by
  have hm:=List.getElem_mem hi
  rw[h.leveled hm] at hl
  obtain⟨h1,h2⟩:=h.lev _ hm hl
  exact zqs h2 h1
 have hd3:=zlg h
 have hzero:∀ j,za7 l<=j->(zc3 l (zcp l y)).getD j 0=0:=fun j hj=>by
  by_cases h3:j < 3
  ·exact(hfa j h3).2 fun⟨i,hi,q1,q2⟩=>by have:=hlv i hi q1;omega
  ·have:=zhl l (zcp l y)
   simp[List.getD,List.getElem?_eq_none (show(zc3 l (zcp l y)).length<=j by omega)]
 have hval:∀ j,j < za7 l->(zc3 l (zcp l y)).getD j 0=(zb1 l y 5).getD j 0:=fun j hj=>by
  refine(hfa j (by omega)).1 ?_
  rw[zd4] at hj
  have hp:=List.getElem_mem hj
  obtain⟨p1,p2⟩:=(zht l 5 _).1 hp
  obtain⟨t,t1,t2,t3⟩:=(ze9 l _).1 p2
  obtain⟨i,hi,rfl⟩:=List.getElem_of_mem t1
  refine⟨i,hi,by rw[h.leveled t1];exact t2,?_⟩
  obtain⟨l1,l2⟩:=h.lev _ t1 t2
  have:=zmk l2 l1
  rw[t3] at this
  obtain⟨hk,e⟩:=List.getElem?_eq_some_iff.1 this
  exact z1h (List.nodup_range.filter _:(zcb l 5).Nodup) hk hj e
 refine⟨zc3 l (zcp l y),(zl1 h).2 ⟨rfl,fun i hi=>?_⟩,zhl _ _,?_,hzero⟩
 ·unfold zd2
  have hm:=List.getElem_mem hi
  cases hl:leveled l.terms[i] with
  |true =>
   rw[if_pos rfl,hval _ (hlv i hi hl),hg i hi hl]
   simp
  |false =>
   rw[if_neg (by simp),hat i hi]
   rw[h.leveled hm] at hl
   unfold atT
   rw[if_neg (by simp[hl])]
   simp
 ·refine List.ext_getElem (by rw[List.length_take,zhl,zgt,← zd4];omega) fun j h1 h2=>?_
  have hj:j < za7 l:=by rw[zgt,← zd4] at h2;exact h2
  have:=hval j hj
  have hj3:j < (zc3 l (zcp l y)).length:=by rw[zhl];omega
  simp only[List.getD,List.getElem?_eq_getElem hj3,List.getElem?_eq_getElem h2,Option.getD_some] at this
  rw[List.getElem_take]
  exact this
theorem zwu{l:zai}{a W:Nat}(h:zg9 l a W){row f:zaq}(hr:Canon a row)(hm:zbr l row=some f)(y:List Nat)(hy:f.take (za7 l)=zb1 l y 5):row=zcp l y:=by
 obtain⟨rfl,hal⟩:=(zl1 h).1 hm
 refine zry hr (zi5 h y) fun i hi h3=>?_
 have hil:i < l.terms.length:=by rw[h.len];exact hi
 have hmem:=List.getElem_mem hil
 have hq:=hal i hil
 rw[zk2 l y h3]
 unfold rowCell
 rw[if_pos hil,show l.terms.getD i ⟨false,0,0⟩=l.terms[i] by simp[List.getD,hil]]
 unfold zd2 at hq
 unfold atT
 cases hl:leveled l.terms[i] with
 |true =>
  rw[hl,if_pos rfl] at hq
  rw[h.leveled hmem] at hl
  obtain⟨l1,l2⟩:=h.lev _ hmem hl
  rw[if_pos (by simp[hl,l1])]
  have hlt:=zqs l2 l1
  have hat:=zmk l2 l1
  have e:(zc3 l row).getD l.terms[i].level 0=((zc3 l row).take (za7 l)).getD l.terms[i].level 0:=by
   simp[List.getD,hlt]
  rw[e,hy] at hq
  unfold zb1 at hq
  simp only[List.getD,List.getElem?_map,hat,Option.map_some,Option.getD_some,beq_iff_eq] at hq
  exact hq.symm
 |false =>
  rw[hl,if_neg (by simp)] at hq
  rw[h.leveled hmem] at hl
  rw[if_neg (by simp[hl])]
  exact(by simpa using hq:l.terms[i].num=row.getD i 0).symm
end Go.Proofs.YteampbddflhngabGreat
