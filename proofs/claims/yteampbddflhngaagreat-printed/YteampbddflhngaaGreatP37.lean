import Derived.Test.YteampbddflhngaaGreatP36

namespace Go.Proofs.YteampbddflhngaaGreat
def z9v(d:Nat)(vals:List Nat)(f:Nat)(y:List Nat):Prop:=(∀ p,p < d->y.getD p 0=vals.getD p 0)/\f<=y.getD d 0∨∃ i,i < d/\(∀ p,p < i->y.getD p 0=vals.getD p 0)/\vals.getD i 0 < y.getD i 0
def Left(r:zaf)(Ts Ns:List zad)(E:zaq->Prop)(d:Nat)(vals:List Nat)(f:Nat):Prop:=∀ y,zso r Ts Ns y->E (zc0 r.head y)∨z9v d vals f y
theorem z5i{l:zak}{d e:Nat}(hl:∀ p,zde l p=true->p < d)(hd:d<=e):zcg l e=zcg l d:=by
 induction hd with
 |refl=>rfl
 |@step m h ih =>
  rw[zen,if_neg (fun q=>by have:=hl _ q;have:d<=m:=h;omega),ih]
def z8j(d:Nat)(vals y:List Nat):List Nat:=(List.range 5).map fun p=>if p < d then vals.getD p 0 else y.getD p 0
theorem zwp(d:Nat)(vals y:List Nat){p:Nat}(hp:p < 5):(z8j d vals y).getD p 0=if p < d then vals.getD p 0 else y.getD p 0:=by
 simp[z8j,List.getD,hp]
theorem z88{T:zad}{a:Nat}{p q:zaq}(h:(goT T a (p++q)).isSome=true):(goT T a p).isSome=true:=by
 rw[zfs] at h
 cases hg:goT T a p with
 |none=>rw[hg] at h;cases h
 |some x=>rfl
theorem JAt.mix{r:zaf}{Ts Ns:List zad}{W:Nat}{J:zav}{d:Nat}(h:JAt r Ts Ns W J d)(hr:zf1 r)(hf:zdu r Ts W)(hd:d<=r.vars){y:List Nat}(hy:zso r Ts Ns y)(ha:∀ p:Nat,(p:Int)<=zd5 r (d:Nat)->y.getD p 0=J.values.getD p 0):zso r Ts Ns (z8j d J.values y)/\zc0 r.head (z8j d J.values y)=zc0 r.head y:=by
 obtain⟨_,_,b3,b4,b5⟩:=zlz r (known:=(d:Nat)) (by omega)
 have hv5:=hr.vars
 have hlo:∀ {l:zak},(∀ p,zde l p=true->p < r.vars)->(∀ p,zde l p=true->p < d)->∀ p,zde l p=true->(z8j d J.values y).getD p 0=J.values.getD p 0:=fun hl hk p hp=>by
  have:=hl p hp
  rw[zwp d _ _ (by omega),if_pos (hk p hp)]
 have hhi:∀ {l:zak},(∀ p,zde l p=true->p < r.vars)->(∀ p,zde l p=true->p < d->(p:Int)<=zd5 r (d:Nat))->∀ p,zde l p=true->(z8j d J.values y).getD p 0=y.getD p 0:=fun hl hk p hp=>by
  have:=hl p hp
  rw[zwp d _ _ (by omega)]
  split
  ·rename_i hpd;exact(ha p (hk p hp hpd)).symm
  ·rfl
 refine⟨⟨fun i l T hl hT=>⟨fun h0=>(hy.1 i l T hl hT).1 h0,fun h0=>?_⟩,fun x hx=>?_⟩,zfx _ (hhi hr.head fun p hp hk=>by have:=zr2 r.head (known:=((d:Nat):Int)) hp (by omega);omega)⟩
 ·have hlm:=List.mem_of_getElem? hl
  rcases zyx (b4 l hlm) with hk|hk
  ·obtain⟨s,hs⟩:=h.stat.some hf hl
   have hrow:=h.stat.side hs
   rw[hT] at hrow
   simp only[Option.some.injEq] at hrow
   have e:zb6 l (z8j d J.values y) 5=zb6 l J.values d:=by
    rw[zia l (y:=J.values) fun p _ hp=>hlo (hr.plain l hlm) hk p hp]
    unfold zb6
    rw[z5i hk (by omega)]
   rw[e,hrow]
   exact(h.nodes i l s hl hs).2.2
  ·rw[zia l (y:=y) fun p _ hp=>hhi (hr.plain l hlm) hk p hp]
   exact(hy.1 i l T hl hT).2 h0
 ·have hlm:x.1∈r.nots:=(List.of_mem_zip hx).1
  rcases zyx (b5 x.1 hlm) with hk|hk
  ·rw[zfx x.1 (hlo (hr.nots x.1 hlm) hk)]
   exact h.nob x hx (zt3 x.1 hk)
  ·rw[zfx x.1 (hhi (hr.nots x.1 hlm) hk)]
   exact hy.2 x hx
theorem JAt.sol{r:zaf}{Ts Ns:List zad}{W:Nat}{J:zav}{d:Nat}(h:JAt r Ts Ns W J d)(hr:zf1 r)(hf:zdu r Ts W)(hd:d < r.vars){y:List Nat}(hy:zso r Ts Ns y)(ha:∀ p,p < d->y.getD p 0=J.values.getD p 0):∀ x∈zb2 r d,(zh5 J x (y.getD d 0)).isSome=true:=by
 intro x hx
 obtain⟨l,s,h1,h2,h3,_,_,_,_,_,h9⟩:=h.hold hr hf hx
 have hv5:=hr.vars
 have hT:=h.stat.side h2
 have h0:za9 l≠0:=by
  rw[zd9]
  intro q
  have:d∈zcg l 5:=(zh3 l 5 d).2 ⟨by omega,h3⟩
  rw[List.length_eq_zero_iff.1 q] at this
  cases this
 have hs:=(hy.1 x.1 l s.rows h1 hT).2 h0
 rw[← h9]
 have e:zb6 l J.values d++[y.getD d 0]=zb6 l y (d+1):=by
  have:zb6 l y d=zb6 l J.values d:=zia l fun p hp _=>ha p hp
  unfold zb6 at this ⊢
  rw[zen,if_pos h3,List.map_append,this]
  rfl
 rw[e,zi5 l y (show d+1<=5 by omega)]
 unfold zj0 at hs
 rw[← List.take_append_drop (zcg l (d+1)).length (zb6 l y 5)] at hs
 exact z88 hs
def zzm(W:Nat):Nat->Nat
 |0=>1
 |j+1=>W * (1+zzm W j)+1
def zpj(W vars d f:Nat):Nat:=(W - f) * (1+zzm W (vars - d - 1))+1
def zm0(W vars:Nat)(vals:List Nat):Nat->Nat
 |0=>0
 |d+1=>zm0 W vars vals d+zpj W vars d (vals.getD d 0+1)
def zgw(W vars d:Nat)(vals:List Nat)(f:Nat):Nat:=zm0 W vars vals d+if d < vars then zpj W vars d f else 1
theorem zn0(W vars:Nat){x y:List Nat}:∀ d,(∀ p,p < d->x.getD p 0=y.getD p 0)->zm0 W vars x d=zm0 W vars y d
 |0,_=>rfl
 |d+1,h=>by simp only[zm0];rw[zn0 W vars d (fun p hp=>h p (by omega)),h d (by omega)]
theorem zzo(W vars:Nat)(vals:List Nat){a b:Nat}(h:a<=b):zm0 W vars vals a<=zm0 W vars vals b:=by
 induction h with
 |refl=>exact Nat.le_refl _
 |step h ih=>simp only[zm0];omega
theorem zzn{W vars d f v:Nat}{vals:List Nat}(hd:d < vars)(hl:d < vals.length)(hf:f<=v)(hv:v < W):zgw W vars (d+1) (vals.set d v) 0 < zgw W vars d vals f/\zgw W vars d (vals.set d v) (v+1) < zgw W vars d vals f:=by
 have e1:zm0 W vars (vals.set d v) d=zm0 W vars vals d:=zn0 W vars d fun p hp=>by rw[zam,if_neg (by omega)]
 have e2:(vals.set d v).getD d 0=v:=by rw[zam,if_pos ⟨rfl,hl⟩]
 have e3:(if d+1 < vars then zpj W vars (d+1) 0 else 1)=zzm W (vars - d - 1):=by
  split
  ·obtain⟨j,hj⟩:∃ j,vars - d - 1=j+1:=⟨vars - d - 2,by omega⟩
   rw[hj]
   unfold zpj
   rw[show vars - (d+1) - 1=j by omega,Nat.sub_zero]
   rfl
  ·rw[show vars - d - 1=0 by omega];rfl
 have e4:zpj W vars d f=zpj W vars d (v+1)+(v+1 - f) * (1+zzm W (vars - d - 1)):=by
  unfold zpj
  rw[show W - f=(W - (v+1))+(v+1 - f) by omega,Nat.add_mul]
  omega
 have e5:1 * (1+zzm W (vars - d - 1))<=(v+1 - f) * (1+zzm W (vars - d - 1)):=Nat.mul_le_mul_right _ (by omega)
 refine⟨?_,?_⟩
 ·unfold zgw
  rw[if_pos hd,e3]
  simp only[zm0]
  rw[e1,e2]
  omega
 ·unfold zgw
  rw[if_pos hd,if_pos hd,e1]
  omega
theorem ztf(W vars d:Nat)(vals:List Nat)(f:Nat):1<=zgw W vars d vals f:=by
 unfold zgw
 split
 ·unfold zpj;omega
 ·omega
theorem zp2{W vars d b f:Nat}{vals:List Nat}(hd:d<=vars)(hb:b < d):zgw W vars b vals (vals.getD b 0+1) < zgw W vars d vals f:=by
 have e1:zgw W vars b vals (vals.getD b 0+1)=zm0 W vars vals (b+1):=by
  unfold zgw;rw[if_pos (by omega)];rfl
 have e2:=zzo W vars vals (show b+1<=d by omega)
 have e3:1<=if d < vars then zpj W vars d f else 1:=by
  split
  ·unfold zpj;omega
  ·omega
 rw[e1]
 unfold zgw
 omega
def z5u(r:zaf)(Ts Ns:List zad)(W:Nat)(E:zaq->Prop)(M:Nat)(J':zav):Bool->Prop
 |true=>JAt r Ts Ns W J' r.vars/\Left r Ts Ns E r.vars J'.values 0/\zgw W r.vars r.vars J'.values 0<=M
 |false=>(∀ y,zso r Ts Ns y->E (zc0 r.head y))/\zih r Ts Ns J'
theorem zih.ok{r:zaf}{Ts Ns:List zad}{W:Nat}{J:zav}(h:zih r Ts Ns J)(hf:zdu r Ts W):zvt J:=by
 intro i
 cases hs:J.sides[i]? with
 |none =>
  have:J.sides.getD i zeh.zero=zeh.zero:=by simp[List.getD,hs]
  rw[this]
  intro a ha
  simp[zeh.zero] at ha
 |some s =>
  have:J.sides.getD i zeh.zero=s:=by simp[List.getD,hs]
  rw[this]
  have hT:=h.side hs
  have hi:i < r.plain.length:=by rw[← hf.len];exact(List.getElem?_eq_some_iff.1 hT).1
  obtain⟨⟨pth,hinv⟩,_⟩:=(hf.ok i _ _ (List.getElem?_eq_getElem hi) hT).1
  exact hinv.node
theorem zw7{r:zaf}{Ts Ns:List zad}{W:Nat}(hr:zf1 r)(hf:zdu r Ts W)(E:zaq->Prop)(A:Nat)(hA:W * (r.plain.length+1)+r.plain.length<=A) :
  ∀(n:Nat) (J:zav) (d f:Nat),JAt r Ts Ns W J d->d<=r.vars->(d < r.vars->J.from.getD d 0=f)->Left r Ts Ns E d J.values f->zgw W r.vars d J.values f+A < n->∃ J' b,ze7 n J (d:Nat)=some (J',b)/\z5u r Ts Ns W E (zgw W r.vars d J.values f) J' b:=by
 intro n
 induction n with
 |zero=>intro J d f _ _ _ _ h;omega
 |succ n ih =>
  intro J d f h hd hfr hL hn
  have hv5:=hr.vars
  have hpos:=ztf W r.vars d J.values f
  unfold ze7
  have hjv:=h.stat.vars
  by_cases hdv:d < r.vars
  ·rw[if_pos ⟨by omega,by rw[hjv];omega,by omega⟩]
   simp only[Int.toNat_natCast]
   have hhold:=h.stat.holdsAt (show d < 5 by omega)
   have hne:J.holds.getD d []≠[]:=by
    rw[hhold]
    obtain⟨l,hl1,hl2⟩:=hr.safe d hdv
    obtain⟨i,hi,rfl⟩:=List.getElem_of_mem hl1
    intro q
    have:=holds_of (List.getElem?_eq_getElem hi) hl2
    rw[q] at this
    cases this
   have hlen:(zb2 r d).length<=r.plain.length:=by
    unfold zb2
    refine Nat.le_trans (List.length_filterMap_le _ _) ?_
    simp
   have hsz:W * ((zb2 r d).length+1)+(zb2 r d).length<=A:=by
    have:W * ((zb2 r d).length+1)<=W * (r.plain.length+1):=Nat.mul_le_mul_left _ (by omega)
    omega
   obtain⟨J1,res,a1,a2,a3⟩:=zvx W J d (J.from.getD d 0) n (by omega) (h.stat.ok hf) hne (by
    rw[hhold]
    intro x hx
    obtain⟨_,_,_,_,_,_,_,q,_⟩:=h.hold hr hf hx
    exact q) (by
    rw[hhold]
    intro x hx v hv
    obtain⟨l,s,_,q2,_,_,_,_,_,q8,_⟩:=h.hold hr hf hx
    unfold zh5 at hv
    obtain⟨b,hb⟩:=Option.isSome_iff_exists.1 hv
    have:=(zgy hb).2
    rw[show J.sides.getD x.1 zeh.zero=s by simp[List.getD,q2]] at this
    omega) (by rw[hhold];omega)
   rw[hhold] at a3
   rw[hfr hdv] at a1 a3
   rw[hfr hdv,a1]
   have h1:=h.same a2
   have hvals:J1.values=J.values:=by rw[a2]
   have hfrom:J1.from=J.from:=by rw[a2]
   have hold1:∀ x v,zh5 J1 x v=zh5 J x v:=fun x v=>zz0 a2 x v
   cases res with
   |none =>
    simp only
    have hbk:J1.backs.getD d 0=zd5 r (d:Nat):=by rw[h1.stat.backs];simp[List.getD,show d < 5 by omega]
    rw[hbk]
    obtain⟨b1,b2,b3,b4,b5⟩:=zlz r (known:=((d:Nat):Int)) (by omega)
    have key:∀ y,zso r Ts Ns y->(∀ p:Nat,(p:Int)<=zd5 r (d:Nat)->y.getD p 0=J.values.getD p 0)->E (zc0 r.head y):=by
     intro y hy ha
     obtain⟨m1,m2⟩:=h.mix hr hf hd hy ha
     have hlow:∀ p,p < d->(z8j d J.values y).getD p 0=J.values.getD p 0:=fun p hp=>by rw[zwp d _ _ (by omega),if_pos hp]
     rw[← m2]
     rcases hL _ m1 with q|⟨_,q⟩|⟨i,q1,_,q3⟩
     ·exact q
     ·obtain⟨x,hx,hx2⟩:=a3 _ q
      have:=h.sol hr hf hdv m1 hlow x hx
      rw[hx2] at this
      cases this
     ·rw[hlow i q1] at q3;omega
    by_cases hneg:zd5 r (d:Nat) < 0
    ·have hbm:zd5 r (d:Nat)=-1:=by omega
     rw[hbm]
     cases n with
     |zero=>omega
     |succ n =>
      refine⟨J1,false,?_,?_,h1.stat⟩
      ·unfold ze7
       rw[if_neg (by omega)]
       have:¬ ((-1:Int) ≥ (J1.vars:Int)):=by omega
       simp[this]
      ·intro y hy
       exact key y hy fun p hp=>by omega
    ·obtain⟨b,hb⟩:∃ b:Nat,zd5 r (d:Nat)=(b:Int):=⟨(zd5 r (d:Nat)).toNat,by omega⟩
     rw[hb] at key b1 ⊢
     have hbd:b < d:=by omega
     have hM:=zp2 (W:=W) (vars:=r.vars) (f:=f) (vals:=J.values) hd hbd
     obtain⟨J',bb,s1,s2⟩:=ih J1 b (J.values.getD b 0+1) (h1.back (by omega)) (by omega) (fun _=>by rw[hfrom,h.from b hbd]) (by
      rw[hvals]
      intro y hy
      rcases hL y hy with q|⟨q1,q2⟩|⟨i,q1,q2,q3⟩
      ·exact Or.inl q
      ·exact Or.inl (key y hy fun p hp=>q1 p (by omega))
      ·by_cases hib:i<=b
       ·refine Or.inr ?_
        by_cases hib2:i=b
        ·subst hib2
         exact Or.inl ⟨q2,by omega⟩
        ·exact Or.inr ⟨i,by omega,q2,q3⟩
       ·exact Or.inl (key y hy fun p hp=>q2 p (by omega))) (by rw[hvals];omega)
     refine⟨J',bb,s1,?_⟩
     rw[hvals] at s2
     cases bb with
     |true=>exact⟨s2.1,s2.2.1,by have:=s2.2.2;omega⟩
     |false=>exact s2
   |some v =>
    simp only
    obtain⟨c1,c2,c3⟩:=a3
    have hvW:v < W:=by
     obtain⟨x,hx⟩:=List.exists_mem_of_ne_nil _ (hhold ▸ hne)
     obtain⟨l,s,_,q2,_,_,_,_,_,q8,_⟩:=h.hold hr hf hx
     have hv:=c2 x hx
     unfold zh5 at hv
     obtain⟨b,hb⟩:=Option.isSome_iff_exists.1 hv
     have:=(zgy hb).2
     rw[show J.sides.getD x.1 zeh.zero=s by simp[List.getD,q2]] at this
     omega
    obtain⟨t1,t2,t3,t4,t5,t6⟩:=h1.take hr hf hdv (v:=v) (fun x hx=>by rw[hold1];exact c2 x hx) hvW
    rw[hvals] at t1
    have hvl:d < J.values.length:=by rw[h.stat.vlen];omega
    obtain⟨m1,m2⟩:=zzn (W:=W) (vars:=r.vars) (f:=f) (vals:=J.values) hdv hvl c1 hvW
    have hnosol:∀ y,zso r Ts Ns y->(∀ p,p < d->y.getD p 0=J.values.getD p 0)->f<=y.getD d 0->v<=y.getD d 0:=by
     intro y hy ha hq
     false_or_by_contra
     rename_i hlt
     obtain⟨x,hx,hx2⟩:=c3 (y.getD d 0) hq (by omega)
     have:=h.sol hr hf hdv hy ha x hx
     rw[hx2] at this
     cases this
    have hset:∀ p,p < d->(J.values.set d v).getD p 0=J.values.getD p 0:=fun p hp=>by rw[zam,if_neg (by omega)]
    have hsetd:(J.values.set d v).getD d 0=v:=by rw[zam,if_pos ⟨rfl,hvl⟩]
    by_cases hb:zb3 (zfz J1 d v) (d+1)=true
    ·rw[if_pos hb]
     obtain⟨x,hx,hk,hm⟩:=(zry t5.stat (d+1)).1 hb
     rw[t1] at hm
     obtain⟨J',bb,s1,s2⟩:=ih (zfz J1 d v) d (v+1) t5 hd (fun _=>t3) (by
      rw[t1]
      intro y hy
      rcases hL y hy with q|⟨q1,q2⟩|⟨i,q1,q2,q3⟩
      ·exact Or.inl q
      ·have hge:=hnosol y hy q1 q2
       by_cases hyv:y.getD d 0=v
       ·have:=hy.2 x hx
        rw[zfx x.1 (y:=J.values.set d v) fun p hp=>?_] at this
        ·rw[this] at hm;cases hm
        ·have hpk:=zla x.1 hp
         by_cases hpd:p=d
         ·rw[hpd,hsetd,hyv]
         ·rw[hset p (by omega),q1 p (by omega)]
       ·exact Or.inr (Or.inl ⟨fun p hp=>by rw[hset p hp];exact q1 p hp,by omega⟩)
      ·exact Or.inr (Or.inr ⟨i,q1,fun p hp=>by rw[hset p (by omega)];exact q2 p hp,by rw[hset i q1];exact q3⟩)) (by rw[t1];omega)
     refine⟨J',bb,s1,?_⟩
     rw[t1] at s2
     cases bb with
     |true=>exact⟨s2.1,s2.2.1,by have:=s2.2.2;omega⟩
     |false=>exact s2
    ·rw[if_neg hb]
     have hb:zb3 (zfz J1 d v) (d+1)=false:=by simpa using hb
     have e:((d:Nat):Int)+1=((d+1:Nat):Int):=by omega
     rw[e]
     obtain⟨J',bb,s1,s2⟩:=ih (zfz J1 d v) (d+1) 0 (t6 hb) (by omega) (fun _=>t4 (by omega)) (by
      rw[t1]
      intro y hy
      rcases hL y hy with q|⟨q1,q2⟩|⟨i,q1,q2,q3⟩
      ·exact Or.inl q
      ·have hge:=hnosol y hy q1 q2
       by_cases hyv:y.getD d 0=v
       ·refine Or.inr (Or.inl ⟨fun p hp=>?_,Nat.zero_le _⟩)
        by_cases hpd:p=d
        ·rw[hpd,hsetd,hyv]
        ·rw[hset p (by omega)];exact q1 p (by omega)
       ·exact Or.inr (Or.inr ⟨d,by omega,fun p hp=>by rw[hset p hp];exact q1 p hp,by rw[hsetd];omega⟩)
      ·exact Or.inr (Or.inr ⟨i,by omega,fun p hp=>by rw[hset p (by omega)];exact q2 p hp,by rw[hset i q1];exact q3⟩)) (by rw[t1];omega)
     refine⟨J',bb,s1,?_⟩
     rw[t1] at s2
     cases bb with
     |true=>exact⟨s2.1,s2.2.1,by have:=s2.2.2;omega⟩
     |false=>exact s2
  ·have hdd:d=r.vars:=by omega
   subst hdd
   rw[if_neg (by rw[hjv];omega)]
   refine⟨J,true,by simp[hjv],h,?_,?_⟩
   ·intro y hy
    rcases hL y hy with q|⟨q1,_⟩|q
    ·exact Or.inl q
    ·exact Or.inr (Or.inl ⟨q1,Nat.zero_le _⟩)
    ·exact Or.inr (Or.inr q)
   ·unfold zgw;rw[if_neg hdv,if_neg hdv];exact Nat.le_refl _
def zvr(r:zaf)(Ts Ns:List zad)(W:Nat)(E:zaq->Prop)(J:zav)(M:Nat):Prop :=
 J.depth=-1/\zih r Ts Ns J/\(∀ y,zso r Ts Ns y->E (zc0 r.head y))∨(∀(i:Nat) (T:zad),Ts[i]?=some T->T.count≠0)/\∃(d f:Nat),J.depth=(d:Nat)/\d<=r.vars/\JAt r Ts Ns W J d/\(d < r.vars->J.from.getD d 0=f)/\Left r Ts Ns E d J.values f/\zgw W r.vars d J.values f<=M
theorem zgx{d:Nat}(h0:d≠0)(h3:d<=3):zby d=d:=by unfold zby;by_cases h1:d < 1 <;> by_cases h2:d > 3 <;> simp[h1,h2] <;> omega
theorem z97.count{T:zad}{l:zak}{y:List Nat}(h:z97 T l y)(hT:zd6 T)(hd:T.depth=zby (za9 l))(h3:l.terms.length<=3):T.count≠0:=by
 by_cases h0:za9 l=0
 ·exact h.1 h0
 ·have hs:=h.2 h0
  have h5:=zkq l 5
  rw[← zd9] at h5
  have hm:zb6 l y 5∈keysT T:=(zbp T _).2 ⟨by rw[zg2,← zd9,hd,zgx h0 (by omega)],hs⟩
  have:=List.length_pos_of_mem hm
  rw[hT.cnt] at this
  omega
def zf8(r:zaf)(plain nots:List zad):zav:={ head:=r.head,vars:=r.vars,sides:=plain.map (fun T=>⟨T,[0,0,0]⟩),bars:=(r.nots.zip nots).map (fun x=>⟨x.1,zdl x.1,x.2⟩),holds:=(List.range 5).map (zb2 r),backs:=(List.range 5).map (fun p=>zd5 r (p:Nat)),last:=zd5 r r.vars,values:=[0,0,0,0,0],«from»:=[0,0,0,0,0],depth:=if plain.any (fun T=>T.count == 0) then -1 else 0,moves:=0 }
theorem zwj(r:zaf)(Ts Ns:List zad):za3 r Ts Ns=if zb3 (zf8 r Ts Ns) 0 then{ zf8 r Ts Ns with depth:=-1 } else zf8 r Ts Ns:=rfl
theorem zqg(r:zaf)(Ts Ns:List zad):∃ dd,za3 r Ts Ns={ zf8 r Ts Ns with depth:=dd }/\dd=if zb3 (za3 r Ts Ns) 0=true then -1 else if Ts.any (fun T=>T.count == 0)=true then -1 else 0:=by
 have hbe:∀ dd:Int,zb3 { zf8 r Ts Ns with depth:=dd } 0=zb3 (zf8 r Ts Ns) 0:=fun _=>rfl
 rw[zwj]
 by_cases hb:zb3 (zf8 r Ts Ns) 0=true
 ·rw[if_pos hb]
  exact⟨-1,rfl,by rw[hbe,if_pos hb]⟩
 ·rw[if_neg hb]
  exact⟨_,rfl,by rw[if_neg hb]⟩
theorem zt0(r:zaf)(Ts Ns:List zad):zih r Ts Ns (za3 r Ts Ns)/\(za3 r Ts Ns).values=[0,0,0,0,0]/\(za3 r Ts Ns).from=[0,0,0,0,0]/\(za3 r Ts Ns).sides=Ts.map (fun T=>⟨T,[0,0,0]⟩):=by
 obtain⟨dd,h,_⟩:=zqg r Ts Ns
 rw[h]
 exact⟨⟨rfl,rfl,rfl,rfl,rfl,rfl,by simp[zf8,Function.comp_def],rfl,rfl⟩,rfl,rfl,rfl⟩
theorem ztz{r:zaf}{Ts Ns:List zad}{W:Nat}(hr:zf1 r)(hf:zdu r Ts W)(E:zaq->Prop):zvr r Ts Ns W E (za3 r Ts Ns) (zgw W r.vars 0 [] 0):=by
 obtain⟨hst,hv,hfr,hsd⟩:=zt0 r Ts Ns
 have hnosol:(∃(i:Nat) (T:zad),Ts[i]?=some T/\T.count=0)->∀ y,¬ zso r Ts Ns y:=by
  rintro⟨i,T,h1,h2⟩ y hy
  have hi:i < r.plain.length:=by rw[← hf.len];exact(List.getElem?_eq_some_iff.1 h1).1
  have hl:=List.getElem?_eq_getElem hi
  obtain⟨q1,q2,_⟩:=hf.ok i _ T hl h1
  exact(hy.1 i _ T hl h1).count q1 q2 (hr.terms _ (List.mem_of_getElem? hl)) h2
 have hnobar:zb3 (za3 r Ts Ns) 0=true->∀ y,¬ zso r Ts Ns y:=by
  intro hb y hy
  obtain⟨x,hx,hk,hm⟩:=(zry hst 0).1 hb
  have:=hy.2 x hx
  rw[zfx x.1 (y:=(za3 r Ts Ns).values) fun p hp=>by have:=zla x.1 hp;omega] at this
  rw[this] at hm
  cases hm
 have hdep:(za3 r Ts Ns).depth=if zb3 (za3 r Ts Ns) 0=true then -1 else if Ts.any (fun T=>T.count == 0)=true then -1 else 0:=by
  obtain⟨dd,h1,h2⟩:=zqg r Ts Ns
  rw[← h2,h1]
 by_cases hb:zb3 (za3 r Ts Ns) 0=true
 ·left
  rw[if_pos hb] at hdep
  exact⟨hdep,hst,fun y hy=>absurd hy (hnobar hb y)⟩
 ·rw[if_neg hb] at hdep
  by_cases hz:Ts.any (fun T=>T.count == 0)=true
  ·left
   rw[if_pos hz] at hdep
   refine⟨hdep,hst,fun y hy=>absurd hy (hnosol ?_ y)⟩
   obtain⟨T,h1,h2⟩:=List.any_eq_true.1 hz
   obtain⟨i,hi,rfl⟩:=List.getElem_of_mem h1
   exact⟨i,_,List.getElem?_eq_getElem hi,by simpa using h2⟩
  ·right
   rw[if_neg hz] at hdep
   refine⟨fun i T hT hc=>hz (List.any_eq_true.2 ⟨T,List.mem_of_getElem? hT,by simp[hc]⟩),0,0,hdep,Nat.zero_le _,⟨hst,fun i l s hl hs=>?_,fun x hx hk=>?_,fun i hi=>by omega,fun i hi=>by omega⟩,fun _=>by rw[hfr];rfl,fun y _=>Or.inr (Or.inl ⟨fun p hp=>by omega,Nat.zero_le _⟩),?_⟩
   ·rw[hsd] at hs
    simp only[List.getElem?_map,Option.map_eq_some_iff] at hs
    obtain⟨T,hT,rfl⟩:=hs
    have hp:zb6 l (za3 r Ts Ns).values 0=[]:=rfl
    refine⟨rfl,fun k hk h3=>?_,by rw[hp];rfl⟩
    have:k=0:=by simp[zcg] at hk;exact hk
    subst this
    rw[hp];rfl
   ·cases hm:zdr x.2 (zc0 x.1 (za3 r Ts Ns).values) with
    |none=>rfl
    |some m=>exact absurd ((zry hst 0).2 ⟨x,hx,by omega,by rw[hm];rfl⟩) hb
   ·unfold zgw;exact Nat.le_refl _
theorem z3z{r:zaf}{Ts Ns:List zad}{W:Nat}(hr:zf1 r)(hf:zdu r Ts W)(E:zaq->Prop)(A:Nat)(hA:W * (r.plain.length+1)+r.plain.length<=A)(n:Nat)(J:zav)(M:Nat)(h:zvr r Ts Ns W E J M)(hn:M+A+1 < n) :
  ∃ J' b,zuo n J=some (J',b)/\(b=false->∀ y,zso r Ts Ns y->E (zc0 r.head y))/\(b=true->zso r Ts Ns J'.values/\J'.head=r.head/\∃ M',M' < M/\zvr r Ts Ns W (fun x=>E x∨x=zc0 r.head J'.values) J' M'):=by
 unfold zuo
 rcases h with ⟨h1,h2,h3⟩|⟨hcnt,d,f,h1,h2,h3,h4,h5,h6⟩
 ·rw[h1]
  obtain⟨k,rfl⟩:∃ k,n=k+1:=⟨n - 1,by omega⟩
  refine⟨{ J with depth:=-1 },false,?_,fun _=>h3,fun q=>by cases q⟩
  unfold ze7
  rw[if_neg (by omega)]
  have:¬ ((-1:Int) ≥ (J.vars:Int)):=by omega
  simp[this]
 ·rw[h1]
  obtain⟨J',b,s1,s2⟩:=zw7 hr hf E A hA n J d f h3 h2 h4 h5 (by omega)
  rw[s1]
  simp only
  cases b with
  |false=>exact⟨_,false,rfl,fun _=>s2.1,fun q=>by cases q⟩
  |true =>
   obtain⟨t1,t2,t3⟩:=s2
   have hv5:=hr.vars
   have hsol:zso r Ts Ns J'.values:=by
    refine⟨fun i l T hl hT=>⟨fun _=>hcnt i T hT,fun _=>?_⟩,fun x hx=>?_⟩
    ·obtain⟨s,hs⟩:=t1.stat.some hf hl
     have hrow:=t1.stat.side hs
     rw[hT] at hrow
     simp only[Option.some.injEq] at hrow
     rw[z0q hv5 (hr.plain l (List.mem_of_getElem? hl)),hrow]
     exact(t1.nodes i l s hl hs).2.2
    ·exact t1.nob x hx (zt3 x.1 (hr.nots x.1 (List.of_mem_zip hx).1))
   refine⟨_,true,rfl,fun q=>(by cases q),fun _=>⟨hsol,t1.stat.head,?_⟩⟩
   simp only[if_true]
   obtain⟨b1,b2,b3,_,_⟩:=zlz r (known:=((r.vars:Nat):Int)) (by omega)
   have hlast:=t1.stat.last
   have key:∀ y,(∀ p:Nat,(p:Int)<=zd5 r (r.vars:Nat)->y.getD p 0=J'.values.getD p 0)->zc0 r.head y=zc0 r.head J'.values:=fun y ha=>zfx r.head fun p hp=>ha p (by
    have h1:=hr.head p hp
    have:=zr2 r.head (known:=((r.vars:Nat):Int)) hp (by omega)
    omega)
   have hstat2:zih r Ts Ns { J' with depth:=J'.last }:=⟨t1.stat.head,t1.stat.vars,t1.stat.holds,t1.stat.backs,t1.stat.last,t1.stat.bars,t1.stat.sides,t1.stat.vlen,t1.stat.flen⟩
   have hpos:=ztf W r.vars d J.values f
   by_cases hneg:zd5 r (r.vars:Nat) < 0
   ·refine⟨M - 1,by omega,Or.inl ⟨by show J'.last=-1;rw[hlast];omega,hstat2,fun y hy=>?_⟩⟩
    exact Or.inr (key y fun p hp=>by omega)
   ·obtain⟨bb,hb⟩:∃ b:Nat,zd5 r (r.vars:Nat)=(b:Int):=⟨(zd5 r (r.vars:Nat)).toNat,by omega⟩
    rw[hb] at b1 key
    have hbd:bb < r.vars:=by omega
    have hM:=zp2 (W:=W) (vars:=r.vars) (f:=0) (vals:=J'.values) (Nat.le_refl _) hbd
    have hback:=t1.back (b:=bb) (by omega)
    refine⟨zgw W r.vars bb J'.values (J'.values.getD bb 0+1),by omega,Or.inr ⟨hcnt,bb,J'.values.getD bb 0+1,by show J'.last=_;rw[hlast,hb],by omega,⟨hstat2,hback.nodes,hback.nob,hback.from,hback.small⟩,fun _=>t1.from bb hbd,fun y hy=>?_,Nat.le_refl _⟩⟩
    rcases t2 y hy with q|⟨q1,_⟩|⟨i,q1,q2,q3⟩
    ·exact Or.inl (Or.inl q)
    ·exact Or.inl (Or.inr (key y fun p hp=>q1 p (by omega)))
    ·by_cases hib:i<=bb
     ·refine Or.inr ?_
      by_cases hib2:i=bb
      ·subst hib2
       exact Or.inl ⟨q2,by omega⟩
      ·exact Or.inr ⟨i,by omega,q2,q3⟩
     ·exact Or.inl (Or.inr (key y fun p hp=>q2 p (by omega)))
structure zhj (l:zak) (a W:Nat):Prop where
 len:l.terms.length=a
 le3:a<=3
 lev:∀ t∈l.terms,t.var=true->t.num < 5/\zbq l t.num=some t.level
 con:∀ t∈l.terms,t.var=false->t.num < W
def Canon(a:Nat)(row:zaq):Prop:=row.length=3/\∀ i,a<=i->row.getD i 0=0
theorem zlm(l:zak)(y:List Nat){i:Nat}(hi:i < 3):(zc0 l y).getD i 0=rowCell l y i:=by
 match i,hi with
 |0,_=>rfl
 |1,_=>rfl
 |2,_=>rfl
theorem zji{l:zak}{a W:Nat}(h:zhj l a W)(y:List Nat):Canon a (zc0 l y):=by
 refine⟨rfl,fun i hi=>?_⟩
 by_cases h3:i < 3
 ·rw[zlm l y h3]
  unfold rowCell
  rw[if_neg (by rw[h.len];omega)]
 ·simp[List.getD,zc0]
  rw[List.getElem?_eq_none (by simp;omega)];rfl
theorem ztb{a:Nat}{x y:zaq}(hx:Canon a x)(hy:Canon a y)(h:∀ i,i < a->i < 3->x.getD i 0=y.getD i 0):x=y:=by
 refine List.ext_getElem (by rw[hx.1,hy.1]) fun i h1 h2=>?_
 have e:x.getD i 0=y.getD i 0:=by
  by_cases hi:i < a
  ·exact h i hi (by rw[hx.1] at h1;exact h1)
  ·rw[hx.2 i (by omega),hy.2 i (by omega)]
 simpa [List.getD,h1,h2] using e
theorem z8c{l:zak}{p d:Nat}(hp:zde l p=true)(hd:p < d):(zcg l d)[(zcg l p).length]?=some p:=by
 obtain⟨t,ht⟩:=zsj l (show p+1<=d by omega)
 rw[← ht,zen,if_pos hp]
 simp
theorem znb{l:zak}{p j:Nat}(h:zbq l p=some j)(hp:p < 5):(zcg l 5)[j]?=some p:=by
 rw[zof] at h
 split at h
 ·rename_i hh
  simp only[Option.some.injEq] at h
  subst h
  exact z8c hh hp
 ·cases h
theorem zr3{l:zak}{p j:Nat}(h:zbq l p=some j)(hp:p < 5):j < za9 l:=by
 have:=znb h hp
 rw[zd9]
 exact(List.getElem?_eq_some_iff.1 this).1
theorem zl0{l:zak}{a W:Nat}(h:zhj l a W):za9 l<=3:=by
 have:=zkq l 5
 rw[zd9]
 have:=h.len
 have:=h.le3
 omega
theorem zhj.leveled{l:zak}{a W:Nat}(h:zhj l a W){t:zbn}(ht:t∈l.terms):leveled t=t.var:=by
 unfold Go.Proofs.YteampbddflhngaaGreat.leveled
 cases hv:t.var with
 |false=>rfl
 |true =>
  obtain⟨h1,h2⟩:=h.lev t ht hv
  have:=zr3 h2 h1
  have:=zl0 h
  simp;omega
theorem zej(l:zak)(row f:zaq)(i:Nat):(zbz l row f i).length=f.length:=by unfold zbz;split <;> simp
theorem zhv(l:zak)(row:zaq):(zc7 l row).length=3:=by unfold zc7;rw[zej,zej,zej];rfl
theorem zl3{l:zak}{row:zaq}{g:Nat->Nat}(hg:∀ i (hi:i < l.terms.length),leveled l.terms[i]=true->row.getD i 0=g l.terms[i].level){f:zaq}{m:Nat}(hl:f.length=3)
  (hf:∀ j,j < 3->(f.getD j 0=g j∨f.getD j 0=0)/\((∃ i,∃ hi:i < l.terms.length,i < m/\leveled l.terms[i]=true/\l.terms[i].level=j)->f.getD j 0=g j)/\((¬ ∃ i,∃ hi:i < l.terms.length,leveled l.terms[i]=true/\l.terms[i].level=j)->f.getD j 0=0)) :
  ∀ j,j < 3->((zbz l row f m).getD j 0=g j∨(zbz l row f m).getD j 0=0)/\((∃ i,∃ hi:i < l.terms.length,i < m+1/\leveled l.terms[i]=true/\l.terms[i].level=j)->(zbz l row f m).getD j 0=g j)/\((¬ ∃ i,∃ hi:i < l.terms.length,leveled l.terms[i]=true/\l.terms[i].level=j)->(zbz l row f m).getD j 0=0):=by
 intro j hj
 obtain⟨f0,f1,f2⟩:=hf j hj
 unfold zbz
 by_cases hm:m < l.terms.length/\leveled (l.terms.getD m ⟨false,0,0⟩)=true
 ·rw[if_pos hm]
  have e:l.terms.getD m ⟨false,0,0⟩=l.terms[m]'hm.1:=by simp[List.getD,hm.1]
  rw[e] at hm ⊢
  rw[zam]
  by_cases hjm:l.terms[m].level=j/\l.terms[m].level < f.length
  ·rw[if_pos hjm]
   have:=hg m hm.1 hm.2
   rw[hjm.1] at this
   exact⟨Or.inl this,fun _=>this,fun q=>absurd ⟨m,hm.1,hm.2,hjm.1⟩ q⟩
  ·rw[if_neg hjm]
   refine⟨f0,?_,f2⟩
   rintro⟨i,hi,q1,q2,q3⟩
   by_cases him:i=m
   ·subst him
    exact absurd ⟨q3,by rw[q3,hl];exact hj⟩ hjm
   ·exact f1 ⟨i,hi,by omega,q2,q3⟩
 ·rw[if_neg hm]
  refine⟨f0,?_,f2⟩
  rintro⟨i,hi,q1,q2,q3⟩
  by_cases him:i=m
  ·subst him
   exact absurd ⟨hi,by simpa [List.getD,hi] using q2⟩ hm
  ·exact f1 ⟨i,hi,by omega,q2,q3⟩
theorem z2u{l:zak}{a W:Nat}(h:zhj l a W){row:zaq}{g:Nat->Nat}(hg:∀ i (hi:i < l.terms.length),leveled l.terms[i]=true->row.getD i 0=g l.terms[i].level)(j:Nat)(hj:j < 3):((∃ i,∃ hi:i < l.terms.length,leveled l.terms[i]=true/\l.terms[i].level=j)->(zc7 l row).getD j 0=g j)/\((¬ ∃ i,∃ hi:i < l.terms.length,leveled l.terms[i]=true/\l.terms[i].level=j)->(zc7 l row).getD j 0=0):=by
 have h0:∀ j,j < 3->((([0,0,0]:zaq).getD j 0=g j∨([0,0,0]:zaq).getD j 0=0)/\((∃ i,∃ hi:i < l.terms.length,i < 0/\leveled l.terms[i]=true/\l.terms[i].level=j)->([0,0,0]:zaq).getD j 0=g j)/\((¬ ∃ i,∃ hi:i < l.terms.length,leveled l.terms[i]=true/\l.terms[i].level=j)->([0,0,0]:zaq).getD j 0=0)):=by
  intro j hj
  have hz:([0,0,0]:zaq).getD j 0=0:=by
   match j,hj with
   |0,_=>rfl
   |1,_=>rfl
   |2,_=>rfl
  exact⟨Or.inr hz,fun⟨i,_,q,_⟩=>by omega,fun _=>hz⟩
 have h1:=zl3 hg rfl h0
 have h2:=zl3 hg (by rw[zej];rfl) h1
 have h3:=zl3 hg (by rw[zej,zej];rfl) h2
 obtain⟨_,q2,q3⟩:=h3 j hj
 refine⟨fun⟨i,hi,r1,r2⟩=>q2 ⟨i,hi,?_,r1,r2⟩,q3⟩
 have:=h.len
 have:=h.le3
 omega
theorem zmq{l:zak}{a W:Nat}(h:zhj l a W){row f:zaq}:zb0 l row=some f↔f=zc7 l row/\∀ i (hi:i < l.terms.length),zd8 l.terms[i] (row.getD i 0) (zc7 l row)=true:=by
 have hall:(zaz l row (zc7 l row) 0 && zaz l row (zc7 l row) 1 && zaz l row (zc7 l row) 2)=true↔∀ i (hi:i < l.terms.length),zd8 l.terms[i] (row.getD i 0) (zc7 l row)=true:=by
  have key:∀ i,zaz l row (zc7 l row) i=true↔∀ hi:i < l.terms.length,zd8 l.terms[i] (row.getD i 0) (zc7 l row)=true:=by
   intro i
   unfold zaz
   simp only[Bool.or_eq_true,decide_eq_true_eq]
   constructor
   ·rintro(q|q) hi
    ·omega
    ·simpa [List.getD,hi] using q
   ·intro q
    by_cases hi:i < l.terms.length
    ·exact Or.inr (by simpa [List.getD,hi] using q hi)
    ·exact Or.inl (by omega)
  simp only[Bool.and_eq_true,key]
  constructor
  ·rintro⟨⟨q0,q1⟩,q2⟩ i hi
   have:=h.len
   have:=h.le3
   have hi3:i=0∨i=1∨i=2:=by omega
   rcases hi3 with rfl|rfl|rfl
   ·exact q0 hi
   ·exact q1 hi
   ·exact q2 hi
  ·intro q
   exact⟨⟨fun hi=>q 0 hi,fun hi=>q 1 hi⟩,fun hi=>q 2 hi⟩
 unfold zb0
 by_cases hc:(zaz l row (zc7 l row) 0 && zaz l row (zc7 l row) 1 && zaz l row (zc7 l row) 2)=true
 ·rw[if_pos hc]
  simp only[Option.some.injEq]
  exact⟨fun q=>⟨q.symm,hall.1 hc⟩,fun q=>q.1.symm⟩
 ·rw[if_neg hc]
  constructor
  ·intro q;cases q
  ·intro q;exact absurd (hall.2 q.2) hc
theorem z4b{l:List Nat}(h:l.Nodup){i j:Nat}(hi:i < l.length)(hj:j < l.length)(e:l[i]=l[j]):i=j:=by
 have hp:=List.pairwise_iff_getElem.1 h
 rcases Nat.lt_trichotomy i j with q|q|q
 ·exact absurd e (hp i j hi hj q)
 ·exact q
 ·exact absurd e.symm (hp j i hj hi q)
theorem z0f{l:zak}{a W:Nat}(h:zhj l a W)(y:List Nat):∃ f,zb0 l (zc0 l y)=some f/\f.length=3/\f.take (za9 l)=zb6 l y 5/\∀ j,za9 l<=j->f.getD j 0=0:=by
 have hat:∀ i (hi:i < l.terms.length),(zc0 l y).getD i 0=atT l.terms[i] y:=fun i hi=>by
  have:=h.len
  have:=h.le3
  rw[zlm l y (by omega)]
  unfold rowCell
  rw[if_pos hi]
  simp[List.getD,hi]
 have hg:∀ i (hi:i < l.terms.length),leveled l.terms[i]=true->(zc0 l y).getD i 0=(zb6 l y 5).getD l.terms[i].level 0:=fun i hi hl=>by
  have hm:=List.getElem_mem hi
  rw[h.leveled hm] at hl
  obtain⟨h1,h2⟩:=h.lev _ hm hl
  rw[hat i hi]
  unfold atT
  rw[if_pos (by simp[hl,h1])]
  have:=znb h2 h1
  unfold zb6
  simp[List.getD,this]
 have hfa:=fun j hj=>z2u h (row:=zc0 l y) (g:=fun j=>(zb6 l y 5).getD j 0) hg j hj
 have hlv:∀ i (hi:i < l.terms.length),leveled l.terms[i]=true->l.terms[i].level < za9 l:=fun i hi hl=>by
  have hm:=List.getElem_mem hi
  rw[h.leveled hm] at hl
  obtain⟨h1,h2⟩:=h.lev _ hm hl
  exact zr3 h2 h1
 have hd3:=zl0 h
 have hzero:∀ j,za9 l<=j->(zc7 l (zc0 l y)).getD j 0=0:=fun j hj=>by
  by_cases h3:j < 3
  ·exact(hfa j h3).2 fun⟨i,hi,q1,q2⟩=>by have:=hlv i hi q1;omega
  ·have:=zhv l (zc0 l y)
   simp[List.getD,List.getElem?_eq_none (show(zc7 l (zc0 l y)).length<=j by omega)]
 have hval:∀ j,j < za9 l->(zc7 l (zc0 l y)).getD j 0=(zb6 l y 5).getD j 0:=fun j hj=>by
  refine(hfa j (by omega)).1 ?_
  rw[zd9] at hj
  have hp:=List.getElem_mem hj
  obtain⟨p1,p2⟩:=(zh3 l 5 _).1 hp
  obtain⟨t,t1,t2,t3⟩:=(zff l _).1 p2
  obtain⟨i,hi,rfl⟩:=List.getElem_of_mem t1
  refine⟨i,hi,by rw[h.leveled t1];exact t2,?_⟩
  obtain⟨l1,l2⟩:=h.lev _ t1 t2
  have:=znb l2 l1
  rw[t3] at this
  obtain⟨hk,e⟩:=List.getElem?_eq_some_iff.1 this
  exact z4b (List.nodup_range.filter _:(zcg l 5).Nodup) hk hj e
 refine⟨zc7 l (zc0 l y),(zmq h).2 ⟨rfl,fun i hi=>?_⟩,zhv _ _,?_,hzero⟩
 ·unfold zd8
  have hm:=List.getElem_mem hi
  cases hl:leveled l.terms[i] with
  |true =>
   rw[if_pos rfl,hval _ (hlv i hi hl),hg i hi hl]
   simp
  |false =>
   rw[if_neg (by simp),hat i hi]
   rw[h.leveled hm] at hl
   unfold atT
   rw[if_neg (by simp[hl])]
   simp
 ·refine List.ext_getElem (by rw[List.length_take,zhv,zg2,← zd9];omega) fun j h1 h2=>?_
  have hj:j < za9 l:=by rw[zg2,← zd9] at h2;exact h2
  have:=hval j hj
  have hj3:j < (zc7 l (zc0 l y)).length:=by rw[zhv];omega
  simp only[List.getD,List.getElem?_eq_getElem hj3,List.getElem?_eq_getElem h2,Option.getD_some] at this
  rw[List.getElem_take]
  exact this
theorem zyf{l:zak}{a W:Nat}(h:zhj l a W){row f:zaq}(hr:Canon a row)(hm:zb0 l row=some f)(y:List Nat)(hy:f.take (za9 l)=zb6 l y 5):row=zc0 l y:=by
 obtain⟨rfl,hal⟩:=(zmq h).1 hm
 refine ztb hr (zji h y) fun i hi h3=>?_
 have hil:i < l.terms.length:=by rw[h.len];exact hi
 have hmem:=List.getElem_mem hil
 have hq:=hal i hil
 rw[zlm l y h3]
 unfold rowCell
 rw[if_pos hil,show l.terms.getD i ⟨false,0,0⟩=l.terms[i] by simp[List.getD,hil]]
 unfold zd8 at hq
 unfold atT
 cases hl:leveled l.terms[i] with
 |true =>
  rw[hl,if_pos rfl] at hq
  rw[h.leveled hmem] at hl
  obtain⟨l1,l2⟩:=h.lev _ hmem hl
  rw[if_pos (by simp[hl,l1])]
  have hlt:=zr3 l2 l1
  have hat:=znb l2 l1
  have e:(zc7 l row).getD l.terms[i].level 0=((zc7 l row).take (za9 l)).getD l.terms[i].level 0:=by
   simp[List.getD,hlt]
  rw[e,hy] at hq
  unfold zb6 at hq
  simp only[List.getD,List.getElem?_map,hat,Option.map_some,Option.getD_some,beq_iff_eq] at hq
  exact hq.symm
 |false =>
  rw[hl,if_neg (by simp)] at hq
  rw[h.leveled hmem] at hl
  rw[if_neg (by simp[hl])]
  exact(by simpa using hq:l.terms[i].num=row.getD i 0).symm
end Go.Proofs.YteampbddflhngaaGreat
