import Derived.Test.YteampbddflhngaaGreatB40

namespace Go.Proofs.YteampbddflhngaaGreat
def yb8(d:Nat)(vals:List Nat)(f:Nat)(y:List Nat):Prop:=(∀ p,p < d->y.getD p 0=vals.getD p 0)/\f<=y.getD d 0∨∃ i,i < d/\(∀ p,p < i->y.getD p 0=vals.getD p 0)/\vals.getD i 0 < y.getD i 0
def Left(r:zah)(Ts Ns:List zae)(E:zas->Prop)(d:Nat)(vals:List Nat)(f:Nat):Prop:=∀ y,zt3 r Ts Ns y->E (zc3 r.head y)∨yb8 d vals f y
theorem z7a{l:zal}{d e:Nat}(hl:∀ p,zde l p=true->p < d)(hd:d<=e):zcg l e=zcg l d:=by
 induction hd with
 |refl=>rfl
 |@step m h ih =>
  rw[zes,if_neg (fun q=>by have:=hl _ q;have:d<=m:=h;omega),ih]
def ya1(d:Nat)(vals y:List Nat):List Nat:=(List.range 5).map fun p=>if p < d then vals.getD p 0 else y.getD p 0
theorem zxy(d:Nat)(vals y:List Nat){p:Nat}(hp:p < 5):(ya1 d vals y).getD p 0=if p < d then vals.getD p 0 else y.getD p 0:=by
 simp[ya1,List.getD,hp]
theorem ybs{T:zae}{a:Nat}{p q:zas}(h:(goT T a (p++q)).isSome=true):(goT T a p).isSome=true:=by
 rw[zf3] at h
 cases hg:goT T a p with
 |none=>rw[hg] at h;cases h
 |some x=>rfl
theorem JAt.mix{r:zah}{Ts Ns:List zae}{W:Nat}{J:zaw}{d:Nat}(h:JAt r Ts Ns W J d)(hr:zgc r)(hf:zd4 r Ts W)(hd:d<=r.vars){y:List Nat}(hy:zt3 r Ts Ns y)(ha:∀ p:Nat,(p:Int)<=zee r (d:Nat)->y.getD p 0=J.values.getD p 0):zt3 r Ts Ns (ya1 d J.values y)/\zc3 r.head (ya1 d J.values y)=zc3 r.head y:=by
 obtain⟨_,_,b3,b4,b5⟩:=zm4 r (known:=(d:Nat)) (by omega)
 have hv5:=hr.vars
 have hlo:∀ {l:zal},(∀ p,zde l p=true->p < r.vars)->(∀ p,zde l p=true->p < d)->∀ p,zde l p=true->(ya1 d J.values y).getD p 0=J.values.getD p 0:=fun hl hk p hp=>by
  have:=hl p hp
  rw[zxy d _ _ (by omega),if_pos (hk p hp)]
 have hhi:∀ {l:zal},(∀ p,zde l p=true->p < r.vars)->(∀ p,zde l p=true->p < d->(p:Int)<=zee r (d:Nat))->∀ p,zde l p=true->(ya1 d J.values y).getD p 0=y.getD p 0:=fun hl hk p hp=>by
  have:=hl p hp
  rw[zxy d _ _ (by omega)]
  split
  ·rename_i hpd;exact(ha p (hk p hp hpd)).symm
  ·rfl
 refine⟨⟨fun i l T hl hT=>⟨fun h0=>(hy.1 i l T hl hT).1 h0,fun h0=>?_⟩,fun x hx=>?_⟩,zf0 _ (hhi hr.head fun p hp hk=>by have:=zts r.head (known:=((d:Nat):Int)) hp (by omega);omega)⟩
 ·have hlm:=List.mem_of_getElem? hl
  rcases zzq (b4 l hlm) with hk|hk
  ·obtain⟨s,hs⟩:=h.stat.some hf hl
   have hrow:=h.stat.side hs
   rw[hT] at hrow
   simp only[Option.some.injEq] at hrow
   have e:zb7 l (ya1 d J.values y) 5=zb7 l J.values d:=by
    rw[ziu l (y:=J.values) fun p _ hp=>hlo (hr.plain l hlm) hk p hp]
    unfold zb7
    rw[z7a hk (by omega)]
   rw[e,hrow]
   exact(h.nodes i l s hl hs).2.2
  ·rw[ziu l (y:=y) fun p _ hp=>hhi (hr.plain l hlm) hk p hp]
   exact(hy.1 i l T hl hT).2 h0
 ·have hlm:x.1∈r.nots:=(List.of_mem_zip hx).1
  rcases zzq (b5 x.1 hlm) with hk|hk
  ·rw[zf0 x.1 (hlo (hr.nots x.1 hlm) hk)]
   exact h.nob x hx (zwx x.1 hk)
  ·rw[zf0 x.1 (hhi (hr.nots x.1 hlm) hk)]
   exact hy.2 x hx
theorem JAt.sol{r:zah}{Ts Ns:List zae}{W:Nat}{J:zaw}{d:Nat}(h:JAt r Ts Ns W J d)(hr:zgc r)(hf:zd4 r Ts W)(hd:d < r.vars){y:List Nat}(hy:zt3 r Ts Ns y)(ha:∀ p,p < d->y.getD p 0=J.values.getD p 0):∀ x∈zb2 r d,(zit J x (y.getD d 0)).isSome=true:=by
 intro x hx
 obtain⟨l,s,h1,h2,h3,_,_,_,_,_,h9⟩:=h.hold hr hf hx
 have hv5:=hr.vars
 have hT:=h.stat.side h2
 have h0:zba l≠0:=by
  rw[zem]
  intro q
  have:d∈zcg l 5:=(zh7 l 5 d).2 ⟨by omega,h3⟩
  rw[List.length_eq_zero_iff.1 q] at this
  cases this
 have hs:=(hy.1 x.1 l s.rows h1 hT).2 h0
 rw[← h9]
 have e:zb7 l J.values d++[y.getD d 0]=zb7 l y (d+1):=by
  have:zb7 l y d=zb7 l J.values d:=ziu l fun p hp _=>ha p hp
  unfold zb7 at this ⊢
  rw[zes,if_pos h3,List.map_append,this]
  rfl
 rw[e,zi7 l y (show d+1<=5 by omega)]
 unfold zke at hs
 rw[← List.take_append_drop (zcg l (d+1)).length (zb7 l y 5)] at hs
 exact ybs hs
def z0s(W:Nat):Nat->Nat
 |0=>1
 |j+1=>W * (1+z0s W j)+1
def zqn(W vars d f:Nat):Nat:=(W - f) * (1+z0s W (vars - d - 1))+1
def znv(W vars:Nat)(vals:List Nat):Nat->Nat
 |0=>0
 |d+1=>znv W vars vals d+zqn W vars d (vals.getD d 0+1)
def zhb(W vars d:Nat)(vals:List Nat)(f:Nat):Nat:=znv W vars vals d+if d < vars then zqn W vars d f else 1
theorem zpa(W vars:Nat){x y:List Nat}:∀ d,(∀ p,p < d->x.getD p 0=y.getD p 0)->znv W vars x d=znv W vars y d
 |0,_=>rfl
 |d+1,h=>by simp only[znv];rw[zpa W vars d (fun p hp=>h p (by omega)),h d (by omega)]
theorem z0y(W vars:Nat)(vals:List Nat){a b:Nat}(h:a<=b):znv W vars vals a<=znv W vars vals b:=by
 induction h with
 |refl=>exact Nat.le_refl _
 |step h ih=>simp only[znv];omega
theorem z2d{W vars d f v:Nat}{vals:List Nat}(hd:d < vars)(hl:d < vals.length)(hf:f<=v)(hv:v < W):zhb W vars (d+1) (vals.set d v) 0 < zhb W vars d vals f/\zhb W vars d (vals.set d v) (v+1) < zhb W vars d vals f:=by
 have e1:znv W vars (vals.set d v) d=znv W vars vals d:=zpa W vars d fun p hp=>by rw[zan,if_neg (by omega)]
 have e2:(vals.set d v).getD d 0=v:=by rw[zan,if_pos ⟨rfl,hl⟩]
 have e3:(if d+1 < vars then zqn W vars (d+1) 0 else 1)=z0s W (vars - d - 1):=by
  split
  ·obtain⟨j,hj⟩:∃ j,vars - d - 1=j+1:=⟨vars - d - 2,by omega⟩
   rw[hj]
   unfold zqn
   rw[show vars - (d+1) - 1=j by omega,Nat.sub_zero]
   rfl
  ·rw[show vars - d - 1=0 by omega];rfl
 have e4:zqn W vars d f=zqn W vars d (v+1)+(v+1 - f) * (1+z0s W (vars - d - 1)):=by
  unfold zqn
  rw[show W - f=(W - (v+1))+(v+1 - f) by omega,Nat.add_mul]
  omega
 have e5:1 * (1+z0s W (vars - d - 1))<=(v+1 - f) * (1+z0s W (vars - d - 1)):=Nat.mul_le_mul_right _ (by omega)
 refine⟨?_,?_⟩
 ·unfold zhb
  rw[if_pos hd,e3]
  simp only[znv]
  rw[e1,e2]
  omega
 ·unfold zhb
  rw[if_pos hd,if_pos hd,e1]
  omega
theorem zv7(W vars d:Nat)(vals:List Nat)(f:Nat):1<=zhb W vars d vals f:=by
 unfold zhb
 split
 ·unfold zqn;omega
 ·omega
theorem zrm{W vars d b f:Nat}{vals:List Nat}(hd:d<=vars)(hb:b < d):zhb W vars b vals (vals.getD b 0+1) < zhb W vars d vals f:=by
 have e1:zhb W vars b vals (vals.getD b 0+1)=znv W vars vals (b+1):=by
  unfold zhb;rw[if_pos (by omega)];rfl
 have e2:=z0y W vars vals (show b+1<=d by omega)
 have e3:1<=if d < vars then zqn W vars d f else 1:=by
  split
  ·unfold zqn;omega
  ·omega
 rw[e1]
 unfold zhb
 omega
def z9w(r:zah)(Ts Ns:List zae)(W:Nat)(E:zas->Prop)(M:Nat)(J':zaw):Bool->Prop
 |true=>JAt r Ts Ns W J' r.vars/\Left r Ts Ns E r.vars J'.values 0/\zhb W r.vars r.vars J'.values 0<=M
 |false=>(∀ y,zt3 r Ts Ns y->E (zc3 r.head y))/\ziy r Ts Ns J'
theorem ziy.ok{r:zah}{Ts Ns:List zae}{W:Nat}{J:zaw}(h:ziy r Ts Ns J)(hf:zd4 r Ts W):zx8 J:=by
 intro i
 cases hs:J.sides[i]? with
 |none =>
  have:J.sides.getD i zeq.zero=zeq.zero:=by simp[List.getD,hs]
  rw[this]
  intro a ha
  simp[zeq.zero] at ha
 |some s =>
  have:J.sides.getD i zeq.zero=s:=by simp[List.getD,hs]
  rw[this]
  have hT:=h.side hs
  have hi:i < r.plain.length:=by rw[← hf.len];exact(List.getElem?_eq_some_iff.1 hT).1
  obtain⟨⟨pth,hinv⟩,_⟩:=(hf.ok i _ _ (List.getElem?_eq_getElem hi) hT).1
  exact hinv.node
theorem zxp{r:zah}{Ts Ns:List zae}{W:Nat}(hr:zgc r)(hf:zd4 r Ts W)(E:zas->Prop)(A:Nat)(hA:W * (r.plain.length+1)+r.plain.length<=A) :
  ∀(n:Nat) (J:zaw) (d f:Nat),JAt r Ts Ns W J d->d<=r.vars->(d < r.vars->J.from.getD d 0=f)->Left r Ts Ns E d J.values f->zhb W r.vars d J.values f+A < n->∃ J' b,zfa n J (d:Nat)=some (J',b)/\z9w r Ts Ns W E (zhb W r.vars d J.values f) J' b:=by
 intro n
 induction n with
 |zero=>intro J d f _ _ _ _ h;omega
 |succ n ih =>
  intro J d f h hd hfr hL hn
  have hv5:=hr.vars
  have hpos:=zv7 W r.vars d J.values f
  unfold zfa
  have hjv:=h.stat.vars
  by_cases hdv:d < r.vars
  ·rw[if_pos ⟨by omega,by rw[hjv];omega,by omega⟩]
   simp only[Int.toNat_natCast]
   have hhold:=h.stat.holdsAt (show d < 5 by omega)
   have hne:J.holds.getD d []≠[]:=by
    rw[hhold]
    obtain⟨l,hl1,hl2⟩:=hr.safe d hdv
    obtain⟨i,hi,rfl⟩:=List.getElem_of_mem hl1
    intro q
    have:=holds_of (List.getElem?_eq_getElem hi) hl2
    rw[q] at this
    cases this
   have hlen:(zb2 r d).length<=r.plain.length:=by
    unfold zb2
    refine Nat.le_trans (List.length_filterMap_le _ _) ?_
    simp
   have hsz:W * ((zb2 r d).length+1)+(zb2 r d).length<=A:=by
    have:W * ((zb2 r d).length+1)<=W * (r.plain.length+1):=Nat.mul_le_mul_left _ (by omega)
    omega
   obtain⟨J1,res,a1,a2,a3⟩:=zx5 W J d (J.from.getD d 0) n (by omega) (h.stat.ok hf) hne (by
    rw[hhold]
    intro x hx
    obtain⟨_,_,_,_,_,_,_,q,_⟩:=h.hold hr hf hx
    exact q) (by
    rw[hhold]
    intro x hx v hv
    obtain⟨l,s,_,q2,_,_,_,_,_,q8,_⟩:=h.hold hr hf hx
    unfold zit at hv
    obtain⟨b,hb⟩:=Option.isSome_iff_exists.1 hv
    have:=(zhd hb).2
    rw[show J.sides.getD x.1 zeq.zero=s by simp[List.getD,q2]] at this
    omega) (by rw[hhold];omega)
   rw[hhold] at a3
   rw[hfr hdv] at a1 a3
   rw[hfr hdv,a1]
   have h1:=h.same a2
   have hvals:J1.values=J.values:=by rw[a2]
   have hfrom:J1.from=J.from:=by rw[a2]
   have hold1:∀ x v,zit J1 x v=zit J x v:=fun x v=>z0v a2 x v
   cases res with
   |none =>
    simp only
    have hbk:J1.backs.getD d 0=zee r (d:Nat):=by rw[h1.stat.backs];simp[List.getD,show d < 5 by omega]
    rw[hbk]
    obtain⟨b1,b2,b3,b4,b5⟩:=zm4 r (known:=((d:Nat):Int)) (by omega)
    have key:∀ y,zt3 r Ts Ns y->(∀ p:Nat,(p:Int)<=zee r (d:Nat)->y.getD p 0=J.values.getD p 0)->E (zc3 r.head y):=by
     intro y hy ha
     obtain⟨m1,m2⟩:=h.mix hr hf hd hy ha
     have hlow:∀ p,p < d->(ya1 d J.values y).getD p 0=J.values.getD p 0:=fun p hp=>by rw[zxy d _ _ (by omega),if_pos hp]
     rw[← m2]
     rcases hL _ m1 with q|⟨_,q⟩|⟨i,q1,_,q3⟩
     ·exact q
     ·obtain⟨x,hx,hx2⟩:=a3 _ q
      have:=h.sol hr hf hdv m1 hlow x hx
      rw[hx2] at this
      cases this
     ·rw[hlow i q1] at q3;omega
    by_cases hneg:zee r (d:Nat) < 0
    ·have hbm:zee r (d:Nat)=-1:=by omega
     rw[hbm]
     cases n with
     |zero=>omega
     |succ n =>
      refine⟨J1,false,?_,?_,h1.stat⟩
      ·unfold zfa
       rw[if_neg (by omega)]
       have:¬ ((-1:Int) ≥ (J1.vars:Int)):=by omega
       simp[this]
      ·intro y hy
       exact key y hy fun p hp=>by omega
    ·obtain⟨b,hb⟩:∃ b:Nat,zee r (d:Nat)=(b:Int):=⟨(zee r (d:Nat)).toNat,by omega⟩
     rw[hb] at key b1 ⊢
     have hbd:b < d:=by omega
     have hM:=zrm (W:=W) (vars:=r.vars) (f:=f) (vals:=J.values) hd hbd
     obtain⟨J',bb,s1,s2⟩:=ih J1 b (J.values.getD b 0+1) (h1.back (by omega)) (by omega) (fun _=>by rw[hfrom,h.from b hbd]) (by
      rw[hvals]
      intro y hy
      rcases hL y hy with q|⟨q1,q2⟩|⟨i,q1,q2,q3⟩
      ·exact Or.inl q
      ·exact Or.inl (key y hy fun p hp=>q1 p (by omega))
      ·by_cases hib:i<=b
       ·refine Or.inr ?_
        by_cases hib2:i=b
        ·subst hib2
         exact Or.inl ⟨q2,by omega⟩
        ·exact Or.inr ⟨i,by omega,q2,q3⟩
       ·exact Or.inl (key y hy fun p hp=>q2 p (by omega))) (by rw[hvals];omega)
     refine⟨J',bb,s1,?_⟩
     rw[hvals] at s2
     cases bb with
     |true=>exact⟨s2.1,s2.2.1,by have:=s2.2.2;omega⟩
     |false=>exact s2
   |some v =>
    simp only
    obtain⟨c1,c2,c3⟩:=a3
    have hvW:v < W:=by
     obtain⟨x,hx⟩:=List.exists_mem_of_ne_nil _ (hhold ▸ hne)
     obtain⟨l,s,_,q2,_,_,_,_,_,q8,_⟩:=h.hold hr hf hx
     have hv:=c2 x hx
     unfold zit at hv
     obtain⟨b,hb⟩:=Option.isSome_iff_exists.1 hv
     have:=(zhd hb).2
     rw[show J.sides.getD x.1 zeq.zero=s by simp[List.getD,q2]] at this
     omega
    obtain⟨t1,t2,t3,t4,t5,t6⟩:=h1.take hr hf hdv (v:=v) (fun x hx=>by rw[hold1];exact c2 x hx) hvW
    rw[hvals] at t1
    have hvl:d < J.values.length:=by rw[h.stat.vlen];omega
    obtain⟨m1,m2⟩:=z2d (W:=W) (vars:=r.vars) (f:=f) (vals:=J.values) hdv hvl c1 hvW
    have hnosol:∀ y,zt3 r Ts Ns y->(∀ p,p < d->y.getD p 0=J.values.getD p 0)->f<=y.getD d 0->v<=y.getD d 0:=by
     intro y hy ha hq
     false_or_by_contra
     rename_i hlt
     obtain⟨x,hx,hx2⟩:=c3 (y.getD d 0) hq (by omega)
     have:=h.sol hr hf hdv hy ha x hx
     rw[hx2] at this
     cases this
    have hset:∀ p,p < d->(J.values.set d v).getD p 0=J.values.getD p 0:=fun p hp=>by rw[zan,if_neg (by omega)]
    have hsetd:(J.values.set d v).getD d 0=v:=by rw[zan,if_pos ⟨rfl,hvl⟩]
    by_cases hb:zb3 (zfx J1 d v) (d+1)=true
    ·rw[if_pos hb]
     obtain⟨x,hx,hk,hm⟩:=(zt2 t5.stat (d+1)).1 hb
     rw[t1] at hm
     obtain⟨J',bb,s1,s2⟩:=ih (zfx J1 d v) d (v+1) t5 hd (fun _=>t3) (by
      rw[t1]
      intro y hy
      rcases hL y hy with q|⟨q1,q2⟩|⟨i,q1,q2,q3⟩
      ·exact Or.inl q
      ·have hge:=hnosol y hy q1 q2
       by_cases hyv:y.getD d 0=v
       ·have:=hy.2 x hx
        rw[zf0 x.1 (y:=J.values.set d v) fun p hp=>?_] at this
        ·rw[this] at hm;cases hm
        ·have hpk:=zl2 x.1 hp
         by_cases hpd:p=d
         ·rw[hpd,hsetd,hyv]
         ·rw[hset p (by omega),q1 p (by omega)]
       ·exact Or.inr (Or.inl ⟨fun p hp=>by rw[hset p hp];exact q1 p hp,by omega⟩)
      ·exact Or.inr (Or.inr ⟨i,q1,fun p hp=>by rw[hset p (by omega)];exact q2 p hp,by rw[hset i q1];exact q3⟩)) (by rw[t1];omega)
     refine⟨J',bb,s1,?_⟩
     rw[t1] at s2
     cases bb with
     |true=>exact⟨s2.1,s2.2.1,by have:=s2.2.2;omega⟩
     |false=>exact s2
    ·rw[if_neg hb]
     have hb:zb3 (zfx J1 d v) (d+1)=false:=by simpa using hb
     have e:((d:Nat):Int)+1=((d+1:Nat):Int):=by omega
     rw[e]
     obtain⟨J',bb,s1,s2⟩:=ih (zfx J1 d v) (d+1) 0 (t6 hb) (by omega) (fun _=>t4 (by omega)) (by
      rw[t1]
      intro y hy
      rcases hL y hy with q|⟨q1,q2⟩|⟨i,q1,q2,q3⟩
      ·exact Or.inl q
      ·have hge:=hnosol y hy q1 q2
       by_cases hyv:y.getD d 0=v
       ·refine Or.inr (Or.inl ⟨fun p hp=>?_,Nat.zero_le _⟩)
        by_cases hpd:p=d
        ·rw[hpd,hsetd,hyv]
        ·rw[hset p (by omega)];exact q1 p (by omega)
       ·exact Or.inr (Or.inr ⟨d,by omega,fun p hp=>by rw[hset p hp];exact q1 p hp,by rw[hsetd];omega⟩)
      ·exact Or.inr (Or.inr ⟨i,by omega,fun p hp=>by rw[hset p (by omega)];exact q2 p hp,by rw[hset i q1];exact q3⟩)) (by rw[t1];omega)
     refine⟨J',bb,s1,?_⟩
     rw[t1] at s2
     cases bb with
     |true=>exact⟨s2.1,s2.2.1,by have:=s2.2.2;omega⟩
     |false=>exact s2
  ·have hdd:d=r.vars:=by omega
   subst hdd
   rw[if_neg (by rw[hjv];omega)]
   refine⟨J,true,by simp[hjv],h,?_,?_⟩
   ·intro y hy
    rcases hL y hy with q|⟨q1,_⟩|q
    ·exact Or.inl q
    ·exact Or.inr (Or.inl ⟨q1,Nat.zero_le _⟩)
    ·exact Or.inr (Or.inr q)
   ·unfold zhb;rw[if_neg hdv,if_neg hdv];exact Nat.le_refl _
end Go.Proofs.YteampbddflhngaaGreat

namespace Go.Proofs.YteampbddflhngaaGreat
def zxb(r:zah)(Ts Ns:List zae)(W:Nat)(E:zas->Prop)(J:zaw)(M:Nat):Prop :=
 J.depth=-1/\ziy r Ts Ns J/\(∀ y,zt3 r Ts Ns y->E (zc3 r.head y))∨(∀(i:Nat) (T:zae),Ts[i]?=some T->T.count≠0)/\∃(d f:Nat),J.depth=(d:Nat)/\d<=r.vars/\JAt r Ts Ns W J d/\(d < r.vars->J.from.getD d 0=f)/\Left r Ts Ns E d J.values f/\zhb W r.vars d J.values f<=M
theorem zg2{d:Nat}(h0:d≠0)(h3:d<=3):zby d=d:=by unfold zby;by_cases h1:d < 1 <;> by_cases h2:d > 3 <;> simp[h1,h2] <;> omega
theorem ycg.count{T:zae}{l:zal}{y:List Nat}(h:ycg T l y)(hT:zel T)(hd:T.depth=zby (zba l))(h3:l.terms.length<=3):T.count≠0:=by
 by_cases h0:zba l=0
 ·exact h.1 h0
 ·have hs:=h.2 h0
  have h5:=zk6 l 5
  rw[← zem] at h5
  have hm:zb7 l y 5∈keysT T:=(zbu T _).2 ⟨by rw[zg9,← zem,hd,zg2 h0 (by omega)],hs⟩
  have:=List.length_pos_of_mem hm
  rw[hT.cnt] at this
  omega
def zgj(r:zah)(plain nots:List zae):zaw:={ head:=r.head,vars:=r.vars,sides:=plain.map (fun T=>⟨T,[0,0,0]⟩),bars:=(r.nots.zip nots).map (fun x=>⟨x.1,zdn x.1,x.2⟩),holds:=(List.range 5).map (zb2 r),backs:=(List.range 5).map (fun p=>zee r (p:Nat)),last:=zee r r.vars,values:=[0,0,0,0,0],«from»:=[0,0,0,0,0],depth:=if plain.any (fun T=>T.count == 0) then -1 else 0,moves:=0 }
theorem zyu(r:zah)(Ts Ns:List zae):za4 r Ts Ns=if zb3 (zgj r Ts Ns) 0 then{ zgj r Ts Ns with depth:=-1 } else zgj r Ts Ns:=rfl
theorem zrq(r:zah)(Ts Ns:List zae):∃ dd,za4 r Ts Ns={ zgj r Ts Ns with depth:=dd }/\dd=if zb3 (za4 r Ts Ns) 0=true then -1 else if Ts.any (fun T=>T.count == 0)=true then -1 else 0:=by
 have hbe:∀ dd:Int,zb3 { zgj r Ts Ns with depth:=dd } 0=zb3 (zgj r Ts Ns) 0:=fun _=>rfl
 rw[zyu]
 by_cases hb:zb3 (zgj r Ts Ns) 0=true
 ·rw[if_pos hb]
  exact⟨-1,rfl,by rw[hbe,if_pos hb]⟩
 ·rw[if_neg hb]
  exact⟨_,rfl,by rw[if_neg hb]⟩
theorem zue(r:zah)(Ts Ns:List zae):ziy r Ts Ns (za4 r Ts Ns)/\(za4 r Ts Ns).values=[0,0,0,0,0]/\(za4 r Ts Ns).from=[0,0,0,0,0]/\(za4 r Ts Ns).sides=Ts.map (fun T=>⟨T,[0,0,0]⟩):=by
 obtain⟨dd,h,_⟩:=zrq r Ts Ns
 rw[h]
 exact⟨⟨rfl,rfl,rfl,rfl,rfl,rfl,by simp[zgj,Function.comp_def],rfl,rfl⟩,rfl,rfl,rfl⟩
theorem zuq{r:zah}{Ts Ns:List zae}{W:Nat}(hr:zgc r)(hf:zd4 r Ts W)(E:zas->Prop):zxb r Ts Ns W E (za4 r Ts Ns) (zhb W r.vars 0 [] 0):=by
 obtain⟨hst,hv,hfr,hsd⟩:=zue r Ts Ns
 have hnosol:(∃(i:Nat) (T:zae),Ts[i]?=some T/\T.count=0)->∀ y,¬ zt3 r Ts Ns y:=by
  rintro⟨i,T,h1,h2⟩ y hy
  have hi:i < r.plain.length:=by rw[← hf.len];exact(List.getElem?_eq_some_iff.1 h1).1
  have hl:=List.getElem?_eq_getElem hi
  obtain⟨q1,q2,_⟩:=hf.ok i _ T hl h1
  exact(hy.1 i _ T hl h1).count q1 q2 (hr.terms _ (List.mem_of_getElem? hl)) h2
 have hnobar:zb3 (za4 r Ts Ns) 0=true->∀ y,¬ zt3 r Ts Ns y:=by
  intro hb y hy
  obtain⟨x,hx,hk,hm⟩:=(zt2 hst 0).1 hb
  have:=hy.2 x hx
  rw[zf0 x.1 (y:=(za4 r Ts Ns).values) fun p hp=>by have:=zl2 x.1 hp;omega] at this
  rw[this] at hm
  cases hm
 have hdep:(za4 r Ts Ns).depth=if zb3 (za4 r Ts Ns) 0=true then -1 else if Ts.any (fun T=>T.count == 0)=true then -1 else 0:=by
  obtain⟨dd,h1,h2⟩:=zrq r Ts Ns
  rw[← h2,h1]
 by_cases hb:zb3 (za4 r Ts Ns) 0=true
 ·left
  rw[if_pos hb] at hdep
  exact⟨hdep,hst,fun y hy=>absurd hy (hnobar hb y)⟩
 ·rw[if_neg hb] at hdep
  by_cases hz:Ts.any (fun T=>T.count == 0)=true
  ·left
   rw[if_pos hz] at hdep
   refine⟨hdep,hst,fun y hy=>absurd hy (hnosol ?_ y)⟩
   obtain⟨T,h1,h2⟩:=List.any_eq_true.1 hz
   obtain⟨i,hi,rfl⟩:=List.getElem_of_mem h1
   exact⟨i,_,List.getElem?_eq_getElem hi,by simpa using h2⟩
  ·right
   rw[if_neg hz] at hdep
   refine⟨fun i T hT hc=>hz (List.any_eq_true.2 ⟨T,List.mem_of_getElem? hT,by simp[hc]⟩),0,0,hdep,Nat.zero_le _,⟨hst,fun i l s hl hs=>?_,fun x hx hk=>?_,fun i hi=>by omega,fun i hi=>by omega⟩,fun _=>by rw[hfr];rfl,fun y _=>Or.inr (Or.inl ⟨fun p hp=>by omega,Nat.zero_le _⟩),?_⟩
   ·rw[hsd] at hs
    simp only[List.getElem?_map,Option.map_eq_some_iff] at hs
    obtain⟨T,hT,rfl⟩:=hs
    have hp:zb7 l (za4 r Ts Ns).values 0=[]:=rfl
    refine⟨rfl,fun k hk h3=>?_,by rw[hp];rfl⟩
    have:k=0:=by simp[zcg] at hk;exact hk
    subst this
    rw[hp];rfl
   ·cases hm:zdx x.2 (zc3 x.1 (za4 r Ts Ns).values) with
    |none=>rfl
    |some m=>exact absurd ((zt2 hst 0).2 ⟨x,hx,by omega,by rw[hm];rfl⟩) hb
   ·unfold zhb;exact Nat.le_refl _
theorem z4i{r:zah}{Ts Ns:List zae}{W:Nat}(hr:zgc r)(hf:zd4 r Ts W)(E:zas->Prop)(A:Nat)(hA:W * (r.plain.length+1)+r.plain.length<=A)(n:Nat)(J:zaw)(M:Nat)(h:zxb r Ts Ns W E J M)(hn:M+A+1 < n) :
  ∃ J' b,zwl n J=some (J',b)/\(b=false->∀ y,zt3 r Ts Ns y->E (zc3 r.head y))/\(b=true->zt3 r Ts Ns J'.values/\J'.head=r.head/\∃ M',M' < M/\zxb r Ts Ns W (fun x=>E x∨x=zc3 r.head J'.values) J' M'):=by
 unfold zwl
 rcases h with ⟨h1,h2,h3⟩|⟨hcnt,d,f,h1,h2,h3,h4,h5,h6⟩
 ·rw[h1]
  obtain⟨k,rfl⟩:∃ k,n=k+1:=⟨n - 1,by omega⟩
  refine⟨{ J with depth:=-1 },false,?_,fun _=>h3,fun q=>by cases q⟩
  unfold zfa
  rw[if_neg (by omega)]
  have:¬ ((-1:Int) ≥ (J.vars:Int)):=by omega
  simp[this]
 ·rw[h1]
  obtain⟨J',b,s1,s2⟩:=zxp hr hf E A hA n J d f h3 h2 h4 h5 (by omega)
  rw[s1]
  simp only
  cases b with
  |false=>exact⟨_,false,rfl,fun _=>s2.1,fun q=>by cases q⟩
  |true =>
   obtain⟨t1,t2,t3⟩:=s2
   have hv5:=hr.vars
   have hsol:zt3 r Ts Ns J'.values:=by
    refine⟨fun i l T hl hT=>⟨fun _=>hcnt i T hT,fun _=>?_⟩,fun x hx=>?_⟩
    ·obtain⟨s,hs⟩:=t1.stat.some hf hl
     have hrow:=t1.stat.side hs
     rw[hT] at hrow
     simp only[Option.some.injEq] at hrow
     rw[z0r hv5 (hr.plain l (List.mem_of_getElem? hl)),hrow]
     exact(t1.nodes i l s hl hs).2.2
    ·exact t1.nob x hx (zwx x.1 (hr.nots x.1 (List.of_mem_zip hx).1))
   refine⟨_,true,rfl,fun q=>(by cases q),fun _=>⟨hsol,t1.stat.head,?_⟩⟩
   simp only[if_true]
   obtain⟨b1,b2,b3,_,_⟩:=zm4 r (known:=((r.vars:Nat):Int)) (by omega)
   have hlast:=t1.stat.last
   have key:∀ y,(∀ p:Nat,(p:Int)<=zee r (r.vars:Nat)->y.getD p 0=J'.values.getD p 0)->zc3 r.head y=zc3 r.head J'.values:=fun y ha=>zf0 r.head fun p hp=>ha p (by
    have h1:=hr.head p hp
    have:=zts r.head (known:=((r.vars:Nat):Int)) hp (by omega)
    omega)
   have hstat2:ziy r Ts Ns { J' with depth:=J'.last }:=⟨t1.stat.head,t1.stat.vars,t1.stat.holds,t1.stat.backs,t1.stat.last,t1.stat.bars,t1.stat.sides,t1.stat.vlen,t1.stat.flen⟩
   have hpos:=zv7 W r.vars d J.values f
   by_cases hneg:zee r (r.vars:Nat) < 0
   ·refine⟨M - 1,by omega,Or.inl ⟨by show J'.last=-1;rw[hlast];omega,hstat2,fun y hy=>?_⟩⟩
    exact Or.inr (key y fun p hp=>by omega)
   ·obtain⟨bb,hb⟩:∃ b:Nat,zee r (r.vars:Nat)=(b:Int):=⟨(zee r (r.vars:Nat)).toNat,by omega⟩
    rw[hb] at b1 key
    have hbd:bb < r.vars:=by omega
    have hM:=zrm (W:=W) (vars:=r.vars) (f:=0) (vals:=J'.values) (Nat.le_refl _) hbd
    have hback:=t1.back (b:=bb) (by omega)
    refine⟨zhb W r.vars bb J'.values (J'.values.getD bb 0+1),by omega,Or.inr ⟨hcnt,bb,J'.values.getD bb 0+1,by show J'.last=_;rw[hlast,hb],by omega,⟨hstat2,hback.nodes,hback.nob,hback.from,hback.small⟩,fun _=>t1.from bb hbd,fun y hy=>?_,Nat.le_refl _⟩⟩
    rcases t2 y hy with q|⟨q1,_⟩|⟨i,q1,q2,q3⟩
    ·exact Or.inl (Or.inl q)
    ·exact Or.inl (Or.inr (key y fun p hp=>q1 p (by omega)))
    ·by_cases hib:i<=bb
     ·refine Or.inr ?_
      by_cases hib2:i=bb
      ·subst hib2
       exact Or.inl ⟨q2,by omega⟩
      ·exact Or.inr ⟨i,by omega,q2,q3⟩
     ·exact Or.inl (Or.inr (key y fun p hp=>q2 p (by omega)))
end Go.Proofs.YteampbddflhngaaGreat

namespace Go.Proofs.YteampbddflhngaaGreat
structure zht (l:zal) (a W:Nat):Prop where
 len:l.terms.length=a
 le3:a<=3
 lev:∀ t∈l.terms,t.var=true->t.num < 5/\zbt l t.num=some t.level
 con:∀ t∈l.terms,t.var=false->t.num < W
def Canon(a:Nat)(row:zas):Prop:=row.length=3/\∀ i,a<=i->row.getD i 0=0
theorem zlc(l:zal)(y:List Nat){i:Nat}(hi:i < 3):(zc3 l y).getD i 0=rowCell l y i:=by
 match i,hi with
 |0,_=>rfl
 |1,_=>rfl
 |2,_=>rfl
theorem zj0{l:zal}{a W:Nat}(h:zht l a W)(y:List Nat):Canon a (zc3 l y):=by
 refine⟨rfl,fun i hi=>?_⟩
 by_cases h3:i < 3
 ·rw[zlc l y h3]
  unfold rowCell
  rw[if_neg (by rw[h.len];omega)]
 ·simp[List.getD,zc3]
  rw[List.getElem?_eq_none (by simp;omega)];rfl
theorem zwq{a:Nat}{x y:zas}(hx:Canon a x)(hy:Canon a y)(h:∀ i,i < a->i < 3->x.getD i 0=y.getD i 0):x=y:=by
 refine List.ext_getElem (by rw[hx.1,hy.1]) fun i h1 h2=>?_
 have e:x.getD i 0=y.getD i 0:=by
  by_cases hi:i < a
  ·exact h i hi (by rw[hx.1] at h1;exact h1)
  ·rw[hx.2 i (by omega),hy.2 i (by omega)]
 simpa [List.getD,h1,h2] using e
theorem z9i{l:zal}{p d:Nat}(hp:zde l p=true)(hd:p < d):(zcg l d)[(zcg l p).length]?=some p:=by
 obtain⟨t,ht⟩:=ztq l (show p+1<=d by omega)
 rw[← ht,zes,if_pos hp]
 simp
theorem zoa{l:zal}{p j:Nat}(h:zbt l p=some j)(hp:p < 5):(zcg l 5)[j]?=some p:=by
 rw[zpk] at h
 split at h
 ·rename_i hh
  simp only[Option.some.injEq] at h
  subst h
  exact z9i hh hp
 ·cases h
theorem ztp{l:zal}{p j:Nat}(h:zbt l p=some j)(hp:p < 5):j < zba l:=by
 have:=zoa h hp
 rw[zem]
 exact(List.getElem?_eq_some_iff.1 this).1
theorem zm3{l:zal}{a W:Nat}(h:zht l a W):zba l<=3:=by
 have:=zk6 l 5
 rw[zem]
 have:=h.len
 have:=h.le3
 omega
theorem zht.leveled{l:zal}{a W:Nat}(h:zht l a W){t:zbp}(ht:t∈l.terms):leveled t=t.var:=by
 unfold Go.Proofs.YteampbddflhngaaGreat.leveled
 cases hv:t.var with
 |false=>rfl
 |true =>
  obtain⟨h1,h2⟩:=h.lev t ht hv
  have:=ztp h2 h1
  have:=zm3 h
  simp;omega
theorem zev(l:zal)(row f:zas)(i:Nat):(zb0 l row f i).length=f.length:=by unfold zb0;split <;> simp
theorem zik(l:zal)(row:zas):(zc8 l row).length=3:=by unfold zc8;rw[zev,zev,zev];rfl
theorem zm1{l:zal}{row:zas}{g:Nat->Nat}(hg:∀ i (hi:i < l.terms.length),leveled l.terms[i]=true->row.getD i 0=g l.terms[i].level){f:zas}{m:Nat}(hl:f.length=3)
  (hf:∀ j,j < 3->(f.getD j 0=g j∨f.getD j 0=0)/\((∃ i,∃ hi:i < l.terms.length,i < m/\leveled l.terms[i]=true/\l.terms[i].level=j)->f.getD j 0=g j)/\((¬ ∃ i,∃ hi:i < l.terms.length,leveled l.terms[i]=true/\l.terms[i].level=j)->f.getD j 0=0)) :
  ∀ j,j < 3->((zb0 l row f m).getD j 0=g j∨(zb0 l row f m).getD j 0=0)/\((∃ i,∃ hi:i < l.terms.length,i < m+1/\leveled l.terms[i]=true/\l.terms[i].level=j)->(zb0 l row f m).getD j 0=g j)/\((¬ ∃ i,∃ hi:i < l.terms.length,leveled l.terms[i]=true/\l.terms[i].level=j)->(zb0 l row f m).getD j 0=0):=by
 intro j hj
 obtain⟨f0,f1,f2⟩:=hf j hj
 unfold zb0
 by_cases hm:m < l.terms.length/\leveled (l.terms.getD m ⟨false,0,0⟩)=true
 ·rw[if_pos hm]
  have e:l.terms.getD m ⟨false,0,0⟩=l.terms[m]'hm.1:=by simp[List.getD,hm.1]
  rw[e] at hm ⊢
  rw[zan]
  by_cases hjm:l.terms[m].level=j/\l.terms[m].level < f.length
  ·rw[if_pos hjm]
   have:=hg m hm.1 hm.2
   rw[hjm.1] at this
   exact⟨Or.inl this,fun _=>this,fun q=>absurd ⟨m,hm.1,hm.2,hjm.1⟩ q⟩
  ·rw[if_neg hjm]
   refine⟨f0,?_,f2⟩
   rintro⟨i,hi,q1,q2,q3⟩
   by_cases him:i=m
   ·subst him
    exact absurd ⟨q3,by rw[q3,hl];exact hj⟩ hjm
   ·exact f1 ⟨i,hi,by omega,q2,q3⟩
 ·rw[if_neg hm]
  refine⟨f0,?_,f2⟩
  rintro⟨i,hi,q1,q2,q3⟩
  by_cases him:i=m
  ·subst him
   exact absurd ⟨hi,by simpa [List.getD,hi] using q2⟩ hm
  ·exact f1 ⟨i,hi,by omega,q2,q3⟩
theorem z5f{l:zal}{a W:Nat}(h:zht l a W){row:zas}{g:Nat->Nat}(hg:∀ i (hi:i < l.terms.length),leveled l.terms[i]=true->row.getD i 0=g l.terms[i].level)(j:Nat)(hj:j < 3):((∃ i,∃ hi:i < l.terms.length,leveled l.terms[i]=true/\l.terms[i].level=j)->(zc8 l row).getD j 0=g j)/\((¬ ∃ i,∃ hi:i < l.terms.length,leveled l.terms[i]=true/\l.terms[i].level=j)->(zc8 l row).getD j 0=0):=by
 have h0:∀ j,j < 3->((([0,0,0]:zas).getD j 0=g j∨([0,0,0]:zas).getD j 0=0)/\((∃ i,∃ hi:i < l.terms.length,i < 0/\leveled l.terms[i]=true/\l.terms[i].level=j)->([0,0,0]:zas).getD j 0=g j)/\((¬ ∃ i,∃ hi:i < l.terms.length,leveled l.terms[i]=true/\l.terms[i].level=j)->([0,0,0]:zas).getD j 0=0)):=by
  intro j hj
  have hz:([0,0,0]:zas).getD j 0=0:=by
   match j,hj with
   |0,_=>rfl
   |1,_=>rfl
   |2,_=>rfl
  exact⟨Or.inr hz,fun⟨i,_,q,_⟩=>by omega,fun _=>hz⟩
 have h1:=zm1 hg rfl h0
 have h2:=zm1 hg (by rw[zev];rfl) h1
 have h3:=zm1 hg (by rw[zev,zev];rfl) h2
 obtain⟨_,q2,q3⟩:=h3 j hj
 refine⟨fun⟨i,hi,r1,r2⟩=>q2 ⟨i,hi,?_,r1,r2⟩,q3⟩
 have:=h.len
 have:=h.le3
 omega
theorem zne{l:zal}{a W:Nat}(h:zht l a W){row f:zas}:zb1 l row=some f↔f=zc8 l row/\∀ i (hi:i < l.terms.length),zep l.terms[i] (row.getD i 0) (zc8 l row)=true:=by
 have hall:(zaz l row (zc8 l row) 0 && zaz l row (zc8 l row) 1 && zaz l row (zc8 l row) 2)=true↔∀ i (hi:i < l.terms.length),zep l.terms[i] (row.getD i 0) (zc8 l row)=true:=by
  have key:∀ i,zaz l row (zc8 l row) i=true↔∀ hi:i < l.terms.length,zep l.terms[i] (row.getD i 0) (zc8 l row)=true:=by
   intro i
   unfold zaz
   simp only[Bool.or_eq_true,decide_eq_true_eq]
   constructor
   ·rintro(q|q) hi
    ·omega
    ·simpa [List.getD,hi] using q
   ·intro q
    by_cases hi:i < l.terms.length
    ·exact Or.inr (by simpa [List.getD,hi] using q hi)
    ·exact Or.inl (by omega)
  simp only[Bool.and_eq_true,key]
  constructor
  ·rintro⟨⟨q0,q1⟩,q2⟩ i hi
   have:=h.len
   have:=h.le3
   have hi3:i=0∨i=1∨i=2:=by omega
   rcases hi3 with rfl|rfl|rfl
   ·exact q0 hi
   ·exact q1 hi
   ·exact q2 hi
  ·intro q
   exact⟨⟨fun hi=>q 0 hi,fun hi=>q 1 hi⟩,fun hi=>q 2 hi⟩
 unfold zb1
 by_cases hc:(zaz l row (zc8 l row) 0 && zaz l row (zc8 l row) 1 && zaz l row (zc8 l row) 2)=true
 ·rw[if_pos hc]
  simp only[Option.some.injEq]
  exact⟨fun q=>⟨q.symm,hall.1 hc⟩,fun q=>q.1.symm⟩
 ·rw[if_neg hc]
  constructor
  ·intro q;cases q
  ·intro q;exact absurd (hall.2 q.2) hc
theorem z7y{l:List Nat}(h:l.Nodup){i j:Nat}(hi:i < l.length)(hj:j < l.length)(e:l[i]=l[j]):i=j:=by
 have hp:=List.pairwise_iff_getElem.1 h
 rcases Nat.lt_trichotomy i j with q|q|q
 ·exact absurd e (hp i j hi hj q)
 ·exact q
 ·exact absurd e.symm (hp j i hj hi q)
theorem z18{l:zal}{a W:Nat}(h:zht l a W)(y:List Nat):∃ f,zb1 l (zc3 l y)=some f/\f.length=3/\f.take (zba l)=zb7 l y 5/\∀ j,zba l<=j->f.getD j 0=0:=by
 have hat:∀ i (hi:i < l.terms.length),(zc3 l y).getD i 0=atT l.terms[i] y:=fun i hi=>by
  have:=h.len
  have:=h.le3
  rw[zlc l y (by omega)]
  unfold rowCell
  rw[if_pos hi]
  simp[List.getD,hi]
 have hg:∀ i (hi:i < l.terms.length),leveled l.terms[i]=true->(zc3 l y).getD i 0=(zb7 l y 5).getD l.terms[i].level 0:=fun i hi hl=>by
  have hm:=List.getElem_mem hi
  rw[h.leveled hm] at hl
  obtain⟨h1,h2⟩:=h.lev _ hm hl
  rw[hat i hi]
  unfold atT
  rw[if_pos (by simp[hl,h1])]
  have:=zoa h2 h1
  unfold zb7
  simp[List.getD,this]
 have hfa:=fun j hj=>z5f h (row:=zc3 l y) (g:=fun j=>(zb7 l y 5).getD j 0) hg j hj
 have hlv:∀ i (hi:i < l.terms.length),leveled l.terms[i]=true->l.terms[i].level < zba l:=fun i hi hl=>by
  have hm:=List.getElem_mem hi
  rw[h.leveled hm] at hl
  obtain⟨h1,h2⟩:=h.lev _ hm hl
  exact ztp h2 h1
 have hd3:=zm3 h
 have hzero:∀ j,zba l<=j->(zc8 l (zc3 l y)).getD j 0=0:=fun j hj=>by
  by_cases h3:j < 3
  ·exact(hfa j h3).2 fun⟨i,hi,q1,q2⟩=>by have:=hlv i hi q1;omega
  ·have:=zik l (zc3 l y)
   simp[List.getD,List.getElem?_eq_none (show(zc8 l (zc3 l y)).length<=j by omega)]
 have hval:∀ j,j < zba l->(zc8 l (zc3 l y)).getD j 0=(zb7 l y 5).getD j 0:=fun j hj=>by
  refine(hfa j (by omega)).1 ?_
  rw[zem] at hj
  have hp:=List.getElem_mem hj
  obtain⟨p1,p2⟩:=(zh7 l 5 _).1 hp
  obtain⟨t,t1,t2,t3⟩:=(zfg l _).1 p2
  obtain⟨i,hi,rfl⟩:=List.getElem_of_mem t1
  refine⟨i,hi,by rw[h.leveled t1];exact t2,?_⟩
  obtain⟨l1,l2⟩:=h.lev _ t1 t2
  have:=zoa l2 l1
  rw[t3] at this
  obtain⟨hk,e⟩:=List.getElem?_eq_some_iff.1 this
  exact z7y (List.nodup_range.filter _:(zcg l 5).Nodup) hk hj e
 refine⟨zc8 l (zc3 l y),(zne h).2 ⟨rfl,fun i hi=>?_⟩,zik _ _,?_,hzero⟩
 ·unfold zep
  have hm:=List.getElem_mem hi
  cases hl:leveled l.terms[i] with
  |true =>
   rw[if_pos rfl,hval _ (hlv i hi hl),hg i hi hl]
   simp
  |false =>
   rw[if_neg (by simp),hat i hi]
   rw[h.leveled hm] at hl
   unfold atT
   rw[if_neg (by simp[hl])]
   simp
 ·refine List.ext_getElem (by rw[List.length_take,zik,zg9,← zem];omega) fun j h1 h2=>?_
  have hj:j < zba l:=by rw[zg9,← zem] at h2;exact h2
  have:=hval j hj
  have hj3:j < (zc8 l (zc3 l y)).length:=by rw[zik];omega
  simp only[List.getD,List.getElem?_eq_getElem hj3,List.getElem?_eq_getElem h2,Option.getD_some] at this
  rw[List.getElem_take]
  exact this
theorem zzh{l:zal}{a W:Nat}(h:zht l a W){row f:zas}(hr:Canon a row)(hm:zb1 l row=some f)(y:List Nat)(hy:f.take (zba l)=zb7 l y 5):row=zc3 l y:=by
 obtain⟨rfl,hal⟩:=(zne h).1 hm
 refine zwq hr (zj0 h y) fun i hi h3=>?_
 have hil:i < l.terms.length:=by rw[h.len];exact hi
 have hmem:=List.getElem_mem hil
 have hq:=hal i hil
 rw[zlc l y h3]
 unfold rowCell
 rw[if_pos hil,show l.terms.getD i ⟨false,0,0⟩=l.terms[i] by simp[List.getD,hil]]
 unfold zep at hq
 unfold atT
 cases hl:leveled l.terms[i] with
 |true =>
  rw[hl,if_pos rfl] at hq
  rw[h.leveled hmem] at hl
  obtain⟨l1,l2⟩:=h.lev _ hmem hl
  rw[if_pos (by simp[hl,l1])]
  have hlt:=ztp l2 l1
  have hat:=zoa l2 l1
  have e:(zc8 l row).getD l.terms[i].level 0=((zc8 l row).take (zba l)).getD l.terms[i].level 0:=by
   simp[List.getD,hlt]
  rw[e,hy] at hq
  unfold zb7 at hq
  simp only[List.getD,List.getElem?_map,hat,Option.map_some,Option.getD_some,beq_iff_eq] at hq
  exact hq.symm
 |false =>
  rw[hl,if_neg (by simp)] at hq
  rw[h.leveled hmem] at hl
  rw[if_neg (by simp[hl])]
  exact(by simpa using hq:l.terms[i].num=row.getD i 0).symm
end Go.Proofs.YteampbddflhngaaGreat
