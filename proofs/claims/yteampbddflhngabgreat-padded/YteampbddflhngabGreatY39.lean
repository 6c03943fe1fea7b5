import Derived.Test.YteampbddflhngabGreatY38
import Derived.Test.YteampbddflhngabGreatY07

namespace Go.Proofs.YteampbddflhngabGreat
open Classical
structure znp (rs:List zah) (ar:List Nat) (W:Nat):Prop where
 rules:∀ r∈rs,znn r ar W
 apart:∀ r∈rs,∀ r'∈rs,∀ l∈r.nots,l.pred≠r'.head.pred
def zkr(rs:List zah)(R:zbg):Prop:=∀ q x,x∈R.fresh.getD q []->∃ r∈rs,q=r.head.pred
theorem Mid.nots{ar:List Nat}{W k:Nat}{D:DB}{c0:List Nat}{R:zbg}{rs:List zah}(h:Mid ar W k D c0 R)(hs:znp rs ar W)(ho:zkr rs R){r:zah}(hr:r∈rs):∀ l∈r.nots,∀ x,zc2 ar R l.pred x=D l.pred x:=by
 intro l hl x
 rw[h.abs]
 cases hq:D l.pred x with
 |some m=>rfl
 |none =>
  simp only
  rw[if_neg]
  intro hx
  obtain⟨r',h1,h2⟩:=ho _ x hx
  exact hs.apart r hr r' h1 l hl h2
inductive zdi (ar:List Nat) (W:Nat) (D0 D:DB) (c:List Nat):List zbk->List zah->Prop
 |nil:zdi ar W D0 D c [] []
 |cons {w:zbk} {r:zah} {ws:List zbk} {rs:List zah}:zvi ar W w r D0 D c->zdi ar W D0 D c ws rs->zdi ar W D0 D c (w::ws) (r::rs)
def zyn(first:Bool)(r:zah)(D0 D:DB)(x:zao):Prop:=if first then Der r D x else ∃ y,Late r D0 D 0 y/\x=zcs r.head y
theorem zrl{ar:List Nat}{W wd k:Nat}{D0 D:DB}{c0:List Nat}(hD:z9t ar D)(hD0:∀ p x,InD D0 p x->InD D p x)(h3:∀ a∈ar,a<=3)(hW:0 < W){mr:Nat}(hmr:mr<=1048576)(fuel:Nat){rs0:List zah}(hs:znp rs0 ar W)(hfu:∀ r∈rs0,zf5 W r<=fuel)(first:Bool){ws:List zbk}{rs:List zah}(hw:zdi ar W D0 D c0 ws rs)(hsub:∀ r∈rs,r∈rs0) :
  ∀(R:zbg),Mid ar W k D c0 R->R.count<=mr->zkr rs0 R->∃ R' ok,zf3 fuel wd mr first ws R=some (R',ok)/\zra ar W k D c0 mr (fun q x=>∃ r∈rs,q=r.head.pred/\Der r D x) R R' ok/\zkr rs0 R'/\(ok=true->∀ r∈rs,∀ x,zyn first r D0 D x->InD (zc2 ar R') r.head.pred x):=by
 induction hw with
 |nil =>
  intro R hm hc ho
  exact⟨R,true,rfl,⟨hm,fun q x hx=>hx,fun q x hx=>Or.inl hx,fun _=>hc,fun q=>by cases q⟩,ho,fun _ r hr=>by cases hr⟩
 |@cons w r ws rs hw1 hws ih =>
  intro R hm hc ho
  have hr0:=hsub r (by simp)
  have hn:=hm.nots hs ho hr0
  have hone:∃ R1 ok,zit fuel wd mr first R w=some (R1,ok)/\zra ar W k D c0 mr (fun q x=>q=r.head.pred/\Der r D x) R R1 ok/\(ok=true->∀ x,zyn first r D0 D x->InD (zc2 ar R1) r.head.pred x):=by
   cases first with
   |true =>
    obtain⟨R1,ok,a1,a2,a3⟩:=zze (wd:=wd) hw1 hD (hs.rules r hr0) h3 hW hmr hm hc hn fuel (hfu r hr0)
    exact⟨R1,ok,a1,a2,fun q x hx=>a3 q x (by simpa [zyn] using hx)⟩
   |false =>
    obtain⟨R1,ok,a1,a2,a3⟩:=zzt (wd:=wd) hw1 hD hD0 (hs.rules r hr0) h3 hW hmr fuel (hfu r hr0) (hs.apart r hr0 r hr0) w.views.length 0 R (by omega) hm hc hn
    refine⟨R1,ok,?_,a2,fun q x hx=>?_⟩
    ·unfold zit
     rw[if_neg (by simp)]
     exact a1
    ·have hx':∃ y,Late r D0 D 0 y/\x=zcs r.head y:=by simpa [zyn] using hx
     obtain⟨y,y1,rfl⟩:=hx'
     exact a3 q y y1
  obtain⟨R1,ok,a1,a2,a3⟩:=hone
  have ho1:zkr rs0 R1:=by
   intro q x hx
   rcases a2.sound q x hx with z|z
   ·exact ho q x z
   ·exact⟨r,hr0,z.1⟩
  unfold zf3
  rw[a1]
  cases ok with
  |false =>
   exact⟨R1,false,rfl,⟨a2.mid,a2.mono,fun q x hx=>(a2.sound q x hx).imp id fun z=>⟨r,by simp,z⟩,a2.yes,a2.no⟩,ho1,fun q=>by cases q⟩
  |true =>
   simp only
   obtain⟨R2,ok2,b1,b2,b3,b4⟩:=ih (fun x hx=>hsub x (by simp[hx])) R1 a2.mid (a2.yes rfl) ho1
   refine⟨R2,ok2,b1,⟨b2.mid,fun q x hx=>b2.mono q x (a2.mono q x hx),fun q x hx=>?_,b2.yes,b2.no⟩,b3,fun hok r' hr' x hx=>?_⟩
   ·rcases b2.sound q x hx with z|⟨r',z1,z2⟩
    ·exact(a2.sound q x z).imp id fun z=>⟨r,by simp,z⟩
    ·exact Or.inr ⟨r',by simp[z1],z2⟩
   ·rcases List.mem_cons.1 hr' with rfl|hr'
    ·exact a2.mid.grow b2.mid b2.mono (a3 rfl x hx)
    ·exact b4 hok r' hr' x hx
theorem z8q{r:zah}{D0 D:DB}(hD0:∀ p x,InD D0 p x->InD D p x){y:List Nat}(h1:∀ l∈r.plain,InD D l.pred (zcs l y))(h2:∀ l∈r.nots,D l.pred (zcs l y)=none):Late r D0 D 0 y∨Der r D0 (zcs r.head y):=by
 by_cases hall:∀ l∈r.plain,InD D0 l.pred (zcs l y)
 ·refine Or.inr ⟨y,hall,fun l hl=>?_,rfl⟩
  cases hq:D0 l.pred (zcs l y) with
  |none=>rfl
  |some m =>
   have:=hD0 l.pred (zcs l y) (by unfold InD;rw[hq];rfl)
   unfold InD at this
   rw[h2 l hl] at this
   cases this
 ·refine Or.inl ?_
  have hex:∃(j:Nat) (l:zak),r.plain[j]?=some l/\¬ InD D0 l.pred (zcs l y):=by
   false_or_by_contra
   rename_i hno
   apply hall
   intro l hl
   obtain⟨i,hi,rfl⟩:=List.getElem_of_mem hl
   false_or_by_contra
   rename_i hq
   exact hno ⟨i,_,List.getElem?_eq_getElem hi,hq⟩
  have hmin:∀ n j:Nat,j=n->(∃ l,r.plain[j]?=some l/\¬ InD D0 l.pred (zcs l y))->∃(j:Nat) (l:zak),r.plain[j]?=some l/\¬ InD D0 l.pred (zcs l y)/\∀(t:Nat) (l':zak),t < j->r.plain[t]?=some l'->InD D0 l'.pred (zcs l' y):=by
   intro n
   induction n using Nat.strongRecOn with
   |_ n ih =>
    rintro j rfl ⟨l,hl,hq⟩
    by_cases hless:∃(t:Nat) (l':zak),t < j/\r.plain[t]?=some l'/\¬ InD D0 l'.pred (zcs l' y)
    ·obtain⟨t,l',t1,t2,t3⟩:=hless
     exact ih t t1 t rfl ⟨l',t2,t3⟩
    ·refine⟨j,l,hl,hq,fun t l' t1 t2=>?_⟩
     false_or_by_contra
     rename_i t3
     exact hless ⟨t,l',t1,t2,t3⟩
  obtain⟨j0,l0,e1,e2⟩:=hex
  obtain⟨j,l,q1,q2,q3⟩:=hmin j0 j0 rfl ⟨l0,e1,e2⟩
  exact⟨j,l,Nat.zero_le _,q1,h1 l (List.mem_of_getElem? q1),q2,fun t l' ht=>⟨fun z=>q3 t l' z ht,fun _=>h1 l' (List.mem_of_getElem? ht)⟩,h2⟩
theorem zmv{ar:List Nat}{W wd k:Nat}(hW:W=za4 wd){D0 D:DB}{c0:List Nat}{R':zbg}(hD0:∀ p x,InD D0 p x->InD D p x)(hm:Mid ar W k D c0 R')(hc:R'.count<=1048576)(fuel:Nat)(hfu:3 * (W+1)<=fuel) :
  ∀(ls:List zak) (vs:List zcr),vs.length=ls.length->(∀ l∈ls,l.pred < ar.length)->(∀(i:Nat) (l:zak) (V:zcr),ls[i]?=some l->vs[i]?=some V->zj6 V l W (InD D0 l.pred) (InD D l.pred) (fun x=>InD D l.pred x/\¬ InD D0 l.pred x) (c0.getD l.pred 0)) →
   ∃ vs',zhm fuel wd R'.fresh vs=some vs'/\vs'.length=ls.length/\∀(i:Nat) (l:zak) (V:zcr),ls[i]?=some l->vs'[i]?=some V->zj6 V l W (InD D l.pred) (InD (zc2 ar R') l.pred) (fun x=>InD (zc2 ar R') l.pred x/\¬ InD D l.pred x) ((R'.rows.map (·.count)).getD l.pred 0)
 |[],[],_,_,_=>⟨[],rfl,rfl,fun i l V h=>by simp at h⟩
 |[],V::vs,hl,_,_=>by simp at hl
 |l::ls,[],hl,_,_=>by simp at hl
 |l::ls,V::vs,hl,hp,hv=>by
  have hV:=hv 0 l V rfl rfl
  have hpl:=hp l (by simp)
  have hpf:l.pred < R'.fresh.length:=by rw[hm.flen];exact hpl
  have hpr:l.pred < R'.rows.length:=by rw[hm.inv.len];exact hpl
  have hfr:=hm.fresh l.pred hpf
  have hcn:=hm.cnts l.pred hpr
  have hge:=zyf R'.rows l.pred hpr
  rw[← hm.inv.cnt] at hge
  have hg:R'.fresh.getD l.pred []=R'.fresh[l.pred]:=getD_lt _ hpf
  rw[hg] at hcn
  obtain⟨V',v1,v2⟩:=zoy hV hW R'.fresh[l.pred] (fun x hx=>(hfr.2 x hx).2.1) (by omega) fuel hfu
  obtain⟨vs',w1,w2,w3⟩:=zmv hW hD0 hm hc fuel hfu ls vs (by simpa using hl) (fun x hx=>hp x (by simp[hx])) (fun i l' V' h1 h2=>hv (i+1) l' V' (by simpa using h1) (by simpa using h2))
  have habs:∀ x,InD (zc2 ar R') l.pred x↔InD D l.pred x∨x∈R'.fresh[l.pred]:=by
   intro x
   unfold InD
   rw[hm.abs,hg]
   cases hq:D l.pred x with
   |some m=>simp
   |none =>
    simp only
    by_cases hx:x∈R'.fresh[l.pred]
    ·simp[hx]
    ·simp[hx]
  refine⟨V'::vs',?_,by simp[w2],fun i l' U h1 h2=>?_⟩
  ·unfold zhm
   rw[hV.lit,if_pos hpf,hg,v1,w1]
  ·cases i with
   |zero =>
    simp only[List.getElem?_cons_zero,Option.some.injEq] at h1 h2
    subst h1;subst h2
    refine⟨v2.lit,v2.before.congr fun x=>?_,v2.fresh.congr fun x=>?_,v2.all.congr fun x=>(habs x).symm,?_⟩
    ·constructor
     ·rintro(q|q)
      ·exact hD0 _ x q
      ·exact q.1
     ·intro q
      by_cases q0:InD D0 l.pred x
      ·exact Or.inl q0
      ·exact Or.inr ⟨q,q0⟩
    ·constructor
     ·intro q
      refine⟨(habs x).2 (Or.inr q),fun q2=>?_⟩
      unfold InD at q2
      rw[(hfr.2 x q).2.2] at q2
      cases q2
     ·rintro⟨q1,q2⟩
      exact((habs x).1 q1).resolve_left q2
    ·have e:(R'.rows.map (·.count)).getD l.pred 0=R'.rows[l.pred].count:=by simp[List.getD,hpr]
     rw[e,hcn]
     exact v2.few
   |succ i=>exact w3 i l' U (by simpa using h1) (by simpa using h2)
theorem zup{ar:List Nat}{W wd k:Nat}(hW:W=za4 wd){D0 D:DB}{c0:List Nat}{R':zbg}(hD0:∀ p x,InD D0 p x->InD D p x)(hm:Mid ar W k D c0 R')(hc:R'.count<=1048576)(fuel:Nat)(hfu:3 * (W+1)<=fuel){ws:List zbk}{rs:List zah}(hw:zdi ar W D0 D c0 ws rs)(hp:∀ r∈rs,∀ l∈r.plain,l.pred < ar.length) :
  ∃ ws',zhn fuel wd R'.fresh ws=some ws'/\zdi ar W D (zc2 ar R') (R'.rows.map (·.count)) ws' rs:=by
 induction hw with
 |nil=>exact⟨[],rfl,zdi.nil⟩
 |@cons w r ws rs hw1 hws ih =>
  obtain⟨ws',i1,i2⟩:=ih (fun x hx=>hp x (by simp[hx]))
  obtain⟨vs',v1,v2,v3⟩:=zmv hW hD0 hm hc fuel hfu r.plain w.views hw1.len (hp r (by simp)) hw1.views
  refine⟨{ w with views:=vs' }::ws',?_,zdi.cons ⟨hw1.rule,v2,v3⟩ i2⟩
  unfold zhn
  rw[v1,i1]
def zsj(rs:List zah)(D:DB)(p:Nat)(x:zao):Prop:=∃ r∈rs,p=r.head.pred/\Der r D x
noncomputable def zg2(rs:List zah)(k:Nat)(D:DB):DB:=fun p x=>match D p x with
 |some m=>some m
 |none=>if zsj rs D p x then some k else none
theorem Mid.clear{ar:List Nat}{W:Nat}{R:zbg}(h:zey ar W R):Mid ar W R.rounds (zc2 ar R) (R.rows.map (·.count)) (zfa R):=by
 have hf:∀ p,(List.replicate R.rows.length ([]:List zao)).getD p []=[]:=fun p=>by
  by_cases hp:p < R.rows.length <;> simp[List.getD,hp]
 refine⟨⟨h.len,h.tries,h.cnt⟩,rfl,by simp[zfa,h.len],fun p hp=>?_,fun p x=>?_,fun p hp=>?_⟩
 ·simp only[zfa,List.getElem_replicate]
  exact⟨List.nodup_nil,fun x hx=>by cases hx⟩
 ·show zc2 ar R p x=match zc2 ar R p x with|some m=>some m|none=>if x∈(List.replicate R.rows.length ([]:List zao)).getD p [] then some R.rounds else none
  rw[hf]
  cases zc2 ar R p x <;> simp
 ·show R.rows[p].count=(R.rows.map (·.count)).getD p 0+((List.replicate R.rows.length ([]:List zao)).getD p []).length
  have hp':p < R.rows.length:=hp
  rw[hf,show(R.rows.map (·.count)).getD p 0=R.rows[p].count by simp[List.getD,hp']]
  rfl
theorem Mid.start{ar:List Nat}{W:Nat}{R:zbg}(h:zey ar W R):Mid ar W (R.rounds+1) (zc2 ar R) (R.rows.map (·.count)) (zfa { R with rounds:=R.rounds+1 }) :=
 Mid.clear (R:={ R with rounds:=R.rounds+1 }) ⟨h.len,h.tries,h.cnt⟩
theorem z0e{ar:List Nat}{W wd:Nat}(hWd:W=za4 wd)(h3:∀ a∈ar,a<=3){mr:Nat}(hmr:mr<=1048576)(fuel:Nat){rs:List zah}(hs:znp rs ar W)(hfu:(∀ r∈rs,zf5 W r<=fuel)/\3 * (W+1)<=fuel)(first:Bool){ws:List zbk}{R:zbg}{D0:DB}(hi:zey ar W R)(hc:R.count<=mr)(hD0:∀ p x,InD D0 p x->InD (zc2 ar R) p x)(hw:zdi ar W D0 (zc2 ar R) (R.rows.map (·.count)) ws rs)(hcl:first=false->∀ p x,zsj rs D0 p x->InD (zc2 ar R) p x) :
  ∃ R' ws' ok,zqw fuel wd mr first ws R=some (R',ws',ok)/\zey ar W R'/\R'.rounds=R.rounds+1/\(∀ p x,InD (zc2 ar R') p x->InD (zg2 rs (R.rounds+1) (zc2 ar R)) p x)/\(ok=false->R'.count > mr)/\(ok=true->R'.count<=mr/\zc2 ar R'=zg2 rs (R.rounds+1) (zc2 ar R)/\zdi ar W (zc2 ar R) (zc2 ar R') (R'.rows.map (·.count)) ws' rs):=by
 have hW:0 < W:=by rw[hWd];unfold za4;split <;> omega
 have hst:=Mid.start hi
 have hfc:∀ q x,x∉(zfa { R with rounds:=R.rounds+1 }).fresh.getD q []:=fun q x hx=>by
  have:(List.replicate R.rows.length ([]:List zao)).getD q []=[]:=by by_cases hp:q < R.rows.length <;> simp[List.getD,hp]
  have hx':x∈(List.replicate R.rows.length ([]:List zao)).getD q []:=hx
  rw[this] at hx'
  cases hx'
 obtain⟨R',ok,a1,a2,a3,a4⟩:=zrl (wd:=wd) (zlx ar R) hD0 h3 hW hmr fuel hs hfu.1 first hw (fun r hr=>hr) (zfa { R with rounds:=R.rounds+1 }) hst hc (fun q x hx=>absurd hx (hfc q x))
 have hsound:∀ p x,x∈R'.fresh.getD p []->zsj rs (zc2 ar R) p x:=fun p x hx=>(a2.sound p x hx).resolve_left (hfc p x)
 have hsub:∀ p x,InD (zc2 ar R') p x->InD (zg2 rs (R.rounds+1) (zc2 ar R)) p x:=by
  intro p x hx
  unfold InD at hx ⊢
  rw[a2.mid.abs] at hx
  unfold zg2
  cases hq:zc2 ar R p x with
  |some m=>rfl
  |none =>
   rw[hq] at hx
   simp only at hx ⊢
   by_cases hm:x∈R'.fresh.getD p []
   ·rw[if_pos (hsound p x hm)];rfl
   ·rw[if_neg hm] at hx;cases hx
 unfold zqw
 rw[a1]
 cases ok with
 |false=>exact⟨R',ws,false,rfl,a2.mid.inv,a2.mid.rounds,hsub,fun _=>a2.no rfl,fun q=>by cases q⟩
 |true =>
  have hcount:=a2.yes rfl
  obtain⟨ws',w1,w2⟩:=zup hWd hD0 a2.mid (by omega) fuel hfu.2 hw (fun r hr l hl=>((hs.rules r hr).plain l hl).1)
  simp only[w1,Option.map_some]
  refine⟨R',ws',true,rfl,a2.mid.inv,a2.mid.rounds,hsub,fun q=>(by cases q),fun _=>⟨hcount,?_,w2⟩⟩
  have hcomp:∀ p x,zsj rs (zc2 ar R) p x->InD (zc2 ar R') p x:=by
   rintro p x ⟨r,hr,rfl,y,y1,y2,rfl⟩
   cases first with
   |true=>exact a4 rfl r hr _ (by simp only[zyn,if_true];exact⟨y,y1,y2,rfl⟩)
   |false =>
    rcases z8q hD0 y1 y2 with q|q
    ·exact a4 rfl r hr _ (by simp only[zyn];exact⟨y,q,rfl⟩)
    ·have h1:=hcl rfl r.head.pred _ ⟨r,hr,rfl,q⟩
     unfold InD at h1 ⊢
     rw[a2.mid.abs]
     cases hq:zc2 ar R r.head.pred (zcs r.head y) with
     |some m=>rfl
     |none=>rw[hq] at h1;cases h1
  funext p x
  have hA:=a2.mid.abs p x
  unfold zg2
  rw[hA]
  cases hq:zc2 ar R p x with
  |some m=>rfl
  |none =>
   rw[hq] at hA
   simp only at hA ⊢
   by_cases hstp:zsj rs (zc2 ar R) p x
   ·have:=hcomp p x hstp
    unfold InD at this
    rw[hA] at this
    by_cases hm:x∈R'.fresh.getD p []
    ·rw[if_pos hm,if_pos hstp]
    ·rw[if_neg hm] at this;cases this
   ·rw[if_neg hstp,if_neg (fun hm=>hstp (hsound p x hm))]
theorem zjk{ar:List Nat}{W:Nat}{R:zbg}(h:zey ar W R)(h3:∀ a∈ar,a<=3){p:Nat}(hp:p < R.rows.length)(x:zao):x∈(keysT R.rows[p]).map (fun k=>pad k R.rows[p].depth)↔InD (zc2 ar R) p x:=by
 obtain⟨t1,t2,t3,t4⟩:=h.tries p hp
 have hpa:p < ar.length:=by rw[← h.len];exact hp
 have ha3:ar.getD p 0<=3:=by rw[getD_lt _ hpa];exact h3 _ (List.getElem_mem hpa)
 have hd3:R.rows[p].depth<=3:=by rw[t3];exact(zec _).2
 have hgd:R.rows.getD p zad.zero=R.rows[p]:=getD_lt _ hp
 unfold InD zc2
 constructor
 ·intro hx
  obtain⟨k,hk,rfl⟩:=List.mem_map.1 hx
  obtain⟨k1,k2⟩:=(zbq _ k).1 hk
  rw[if_pos ⟨hpa,t4 k hk⟩,hgd,t1.mark _ (z3q k1 hd3),zli k1]
  exact k2
 ·intro hx
  by_cases hc:p < ar.length/\Canon (ar.getD p 0) x
  ·rw[if_pos hc,hgd,t1.mark x hc.2.1] at hx
   refine List.mem_map.2 ⟨x.take R.rows[p].depth,(zbq _ _).2 ⟨by rw[List.length_take,hc.2.1];omega,hx⟩,?_⟩
   rw[t3,zui ha3 hc.2]
  ·rw[if_neg hc] at hx;cases hx
def zj4(D:DB)(n:Nat):Prop:=∃ l:List (Nat × zao),l.Nodup/\(∀ p x,(p,x)∈l↔InD D p x)/\l.length=n
theorem zmb:∀ {l1 l2:List (Nat × zao)},l1.Nodup->(∀ x∈l1,x∈l2)->l1.length<=l2.length
 |[],l2,_,_=>by simp
 |a::l1,l2,hn,hs=>by
  have ha:=hs a (by simp)
  have h1:=zmb (l1:=l1) (l2:=l2.erase a) (List.nodup_cons.1 hn).2 (fun x hx=>by
   have hne:x≠a:=by rintro rfl;exact(List.nodup_cons.1 hn).1 hx
   exact(List.mem_erase_of_ne hne).2 (hs x (by simp[hx])))
  rw[List.length_erase_of_mem ha] at h1
  have:=List.length_pos_of_mem ha
  simp;omega
theorem zvs{D E:DB}{n m:Nat}(h:zj4 D n)(k:zj4 E m)(hs:∀ p x,InD D p x->InD E p x):n<=m:=by
 obtain⟨l,h1,h2,rfl⟩:=h
 obtain⟨l',k1,k2,rfl⟩:=k
 exact zmb h1 fun x hx=>(k2 x.1 x.2).2 (hs _ _ ((h2 x.1 x.2).1 hx))
theorem z1i{D E:DB}{n m:Nat}(h:zj4 D n)(k:zj4 E m)(hs:∀ p x,InD D p x->InD E p x)(hnm:m<=n):∀ p x,InD E p x->InD D p x:=by
 intro p x hx
 false_or_by_contra
 rename_i hn
 obtain⟨l,h1,h2,rfl⟩:=h
 obtain⟨l',k1,k2,rfl⟩:=k
 have:=zmb (l1:=(p,x)::l) (l2:=l') (List.nodup_cons.2 ⟨fun q=>hn ((h2 p x).1 q),h1⟩) (fun y hy=>by
  rcases List.mem_cons.1 hy with rfl|hy
  ·exact(k2 p x).2 hx
  ·exact(k2 y.1 y.2).2 (hs _ _ ((h2 y.1 y.2).1 hy)))
 simp at this
 omega
theorem zey.card{ar:List Nat}{W:Nat}{R:zbg}(h:zey ar W R)(h3:∀ a∈ar,a<=3):zj4 (zc2 ar R) R.count:=by
 refine⟨(List.range R.rows.length).flatMap fun p=>((keysT (R.rows.getD p zad.zero)).map fun k=>pad k (R.rows.getD p zad.zero).depth).map fun x=>(p,x),?_,fun p x=>?_,?_⟩
 ·unfold List.Nodup
  rw[List.pairwise_flatMap]
  refine⟨fun p hp=>?_,?_⟩
  ·have hp':p < R.rows.length:=List.mem_range.1 hp
   obtain⟨t1,t2,t3,t4⟩:=h.tries p hp'
   rw[List.pairwise_map,getD_lt _ hp',List.pairwise_map]
   refine List.Pairwise.imp_of_mem ?_ (zkg R.rows[p] R.rows[p].depth 0 0)
   intro a b ha hb hne e
   simp only[Prod.mk.injEq,true_and] at e
   have h1:=((zbq R.rows[p] a).1 ha).1
   have h2:=((zbq R.rows[p] b).1 hb).1
   have:=congrArg (List.take R.rows[p].depth) e
   rw[zli h1,zli h2] at this
   exact hne this
  ·refine List.Pairwise.imp ?_ (List.nodup_range (n:=R.rows.length))
   intro a b hne x hx y hy e
   obtain⟨_,_,rfl⟩:=List.mem_map.1 hx
   obtain⟨_,_,rfl⟩:=List.mem_map.1 hy
   simp only[Prod.mk.injEq] at e
   exact hne e.1
 ·simp only[List.mem_flatMap,List.mem_range]
  constructor
  ·rintro⟨q,hq,hx⟩
   obtain⟨z,hz,e⟩:=List.mem_map.1 hx
   simp only[Prod.mk.injEq] at e
   obtain⟨rfl,rfl⟩:=e
   rw[getD_lt _ hq] at hz
   exact(zjk h h3 hq z).1 hz
  ·intro hx
   have hp:p < R.rows.length:=by rw[h.len];exact(zlx ar R p x hx).1
   refine⟨p,hp,List.mem_map.2 ⟨x,?_,rfl⟩⟩
   rw[getD_lt _ hp]
   exact(zjk h h3 hp x).2 hx
 ·rw[List.length_flatMap,h.cnt]
  congr 1
  refine List.ext_getElem (by simp) fun i h1 h2=>?_
  have hi:i < R.rows.length:=by simpa using h1
  simp only[List.getElem_map,List.getElem_range,List.length_map,getD_lt zad.zero hi]
  exact(h.tries i hi).1.cnt
def z3g:DB:=fun _ _=>none
theorem zo7{ar:List Nat}{W wd:Nat}(hWd:W=za4 wd)(h3:∀ a∈ar,a<=3){R:zbg}(h:zey ar W R)(hc:R.count<=1048576)(fuel:Nat)(hfu:3 * (W+1)<=fuel):∀(ls:List zak),(∀ l∈ls,l.pred < ar.length)->∃ vs,zlt fuel wd R ls=some vs/\vs.length=ls.length/\∀(i:Nat) (l:zak) (V:zcr),ls[i]?=some l->vs[i]?=some V->zj6 V l W (InD z3g l.pred) (InD (zc2 ar R) l.pred) (fun x=>InD (zc2 ar R) l.pred x/\¬ InD z3g l.pred x) ((R.rows.map (·.count)).getD l.pred 0)
 |[],_=>⟨[],rfl,rfl,fun i l V h=>by simp at h⟩
 |l::ls,hp=>by
  obtain⟨vs,v1,v2,v3⟩:=zo7 hWd h3 h hc fuel hfu ls (fun x hx=>hp x (by simp[hx]))
  have hpl:l.pred < R.rows.length:=by rw[h.len];exact hp l (by simp)
  obtain⟨t1,t2,t3,t4⟩:=h.tries l.pred hpl
  have hge:=zyf R.rows l.pred hpl
  rw[← h.cnt] at hge
  have hW0:0 < W:=by rw[hWd];unfold za4;split <;> omega
  have hrow:zgf wd R l.pred=R.rows[l.pred]:=by unfold zgf;rw[if_neg (by omega),getD_lt _ hpl]
  have hrg:=t1.rowsG fuel (by rw[t2];exact hfu) (by omega)
  have h0:zj6 (zex wd l) l W (fun _=>False) (fun _=>False) (fun _=>False) 0:=⟨rfl,zdy.new l wd W hWd,zdy.new l wd W hWd,zdy.new l wd W hWd,by simp[zex,zfv,zb8],by simp[zex,zfv,zb8]⟩
  have hlen:((keysT R.rows[l.pred]).map fun k=>pad k R.rows[l.pred].depth).length=R.rows[l.pred].count:=by rw[List.length_map];exact t1.cnt
  obtain⟨V',w1,w2⟩:=zoy h0 hWd ((keysT R.rows[l.pred]).map fun k=>pad k R.rows[l.pred].depth) (fun x hx=>by
   obtain⟨k,hk,rfl⟩:=List.mem_map.1 hx
   refine zuj hW0 ?_
   intro v hv
   have:=zlq k 0 ((zbq _ k).1 hk).2 v hv
   rw[t2] at this
   exact this) (by rw[hlen];omega) fuel hfu
  have hnone:∀ x,¬ InD z3g l.pred x:=fun x q=>by cases q
  refine⟨V'::vs,?_,by simp[v2],fun i l' U e1 e2=>?_⟩
  ·unfold zlt
   rw[hrow,hrg]
   simp only[w1,v1]
  ·cases i with
   |zero =>
    simp only[List.getElem?_cons_zero,Option.some.injEq] at e1 e2
    subst e1;subst e2
    refine⟨w2.lit,w2.before.congr fun x=>⟨fun q=>by rcases q with q|q <;> exact q.elim,fun q=>absurd q (hnone x)⟩,w2.fresh.congr fun x=>?_,w2.all.congr fun x=>?_,?_⟩
    ·rw[zjk h h3 hpl]
     exact⟨fun q=>⟨q,hnone x⟩,fun q=>q.1⟩
    ·rw[zjk h h3 hpl]
     exact⟨fun q=>q.resolve_left id,Or.inr⟩
    ·have e:(R.rows.map (·.count)).getD l.pred 0=R.rows[l.pred].count:=by simp[List.getD,hpl]
     have:=w2.few
     rw[hlen] at this
     rw[e]
     simpa using this
   |succ i=>exact v3 i l' U (by simpa using e1) (by simpa using e2)
theorem zo8{ar:List Nat}{W wd:Nat}(hWd:W=za4 wd)(h3:∀ a∈ar,a<=3){R:zbg}(h:zey ar W R)(hc:R.count<=1048576)(fuel:Nat)(hfu:3 * (W+1)<=fuel)(s:Nat):∀(rules:List zah),(∀ r∈rules,∀ l∈r.plain,l.pred < ar.length)->∃ ws,worksR fuel wd R s rules=some ws/\zdi ar W z3g (zc2 ar R) (R.rows.map (·.count)) ws (rules.filter fun r=>decide (r.stratum=s))
 |[],_=>⟨[],rfl,zdi.nil⟩
 |r::rules,hp=>by
  obtain⟨ws,w1,w2⟩:=zo8 hWd h3 h hc fuel hfu s rules (fun x hx=>hp x (by simp[hx]))
  unfold worksR
  by_cases hs:r.stratum=s
  ·obtain⟨vs,v1,v2,v3⟩:=zo7 hWd h3 h hc fuel hfu r.plain (hp r (by simp))
   rw[if_pos hs,v1,w1]
   refine⟨⟨r,vs⟩::ws,rfl,?_⟩
   rw[List.filter_cons_of_pos (by simp[hs])]
   exact zdi.cons ⟨rfl,v2,v3⟩ w2
  ·rw[if_neg hs]
   refine⟨ws,w1,?_⟩
   rw[List.filter_cons_of_neg (by simp[hs])]
   exact w2
theorem zdi.length{ar:List Nat}{W:Nat}{D0 D:DB}{c:List Nat}{ws:List zbk}{rs:List zah}(h:zdi ar W D0 D c ws rs):ws.length=rs.length:=by
 induction h with
 |nil=>rfl
 |cons _ _ ih=>simp[ih]
def zrg(D:DB)(mr:Nat):Prop:=∃ n,n<=mr/\zj4 D n
noncomputable def zd9(rs:List zah)(mr:Nat):Nat->Nat->DB->Option (DB × Nat)
 |0,_,_=>none
 |left+1,k,D =>
  if zrg (zg2 rs (k+1) D) mr then
   if ∀ p x,InD (zg2 rs (k+1) D) p x->InD D p x then some (zg2 rs (k+1) D,k+1)
   else zd9 rs mr left (k+1) (zg2 rs (k+1) D)
  else none
noncomputable def zez(rules:List zah)(mr mx:Nat):Nat->Nat->Nat->DB->Option (DB × Nat)
 |0,_,k,D=>some (D,k)
 |n+1,s,k,D =>
  if (rules.filter fun r=>decide (r.stratum=s))=[] then zez rules mr mx n (s+1) k D
  else match zd9 (rules.filter fun r=>decide (r.stratum=s)) mr (mx - k) k D with
   |none=>none
   |some (D',k')=>zez rules mr mx n (s+1) k' D'
noncomputable def zjx(fs:List zim):DB:=fun p x=>if ∃ f∈fs,f.pred=p/\f.row=x then some 0 else none
noncomputable def zjw(S:zsc)(mr mx:Nat):Option (DB × Nat):=if zrg (zjx S.facts) mr then zez S.rules mr mx S.arities.length 0 0 (zjx S.facts) else none
theorem z0d(rs:List zah)(k:Nat)(D:DB):∀ p x,InD D p x->InD (zg2 rs k D) p x:=by
 intro p x h
 unfold InD zg2 at *
 cases hq:D p x with
 |some m=>rfl
 |none=>rw[hq] at h;cases h
theorem zwo{rs:List zah}{k:Nat}{D:DB}:∀ p x,zsj rs D p x->InD (zg2 rs k D) p x:=by
 intro p x h
 unfold InD zg2
 cases hq:D p x with
 |some m=>rfl
 |none=>simp only;rw[if_pos h];rfl
theorem zwp{ar:List Nat}{W wd:Nat}(hWd:W=za4 wd)(h3:∀ a∈ar,a<=3){mr mx:Nat}(hmr:mr<=1048576){rs:List zah}(hs:znp rs ar W)(B:Nat)(hB:(∀ r∈rs,zf5 W r<=B)/\3 * (W+1)<=B) :
  ∀(n:Nat) (first:Bool) (ws:List zbk) (R:zbg) (D0:DB),zey ar W R->R.count<=mr->R.rounds<=mx->(∀ p x,InD D0 p x->InD (zc2 ar R) p x)->zdi ar W D0 (zc2 ar R) (R.rows.map (·.count)) ws rs->(first=false->∀ p x,zsj rs D0 p x->InD (zc2 ar R) p x)->B+(mx - R.rounds) < n →
  ∃ R' ok,zg3 wd mr mx n first ws R=some (R',ok)/\(ok=false->zd9 rs mr (mx - R.rounds) R.rounds (zc2 ar R)=none)/\(ok=true->zey ar W R'/\R'.count<=mr/\R'.rounds<=mx/\zd9 rs mr (mx - R.rounds) R.rounds (zc2 ar R)=some (zc2 ar R',R'.rounds)):=by
 intro n
 induction n with
 |zero=>intro first ws R D0 _ _ _ _ _ _ h;omega
 |succ n ih =>
  intro first ws R D0 hi hc hk hD0 hw hcl hn
  unfold zg3
  by_cases hge:R.rounds ≥ mx
  ·rw[if_pos hge]
   refine⟨R,false,rfl,fun _=>?_,fun q=>by cases q⟩
   rw[show mx - R.rounds=0 by omega];rfl
  ·rw[if_neg hge]
   obtain⟨left,hleft⟩:∃ left,mx - R.rounds=left+1:=⟨mx - R.rounds - 1,by omega⟩
   obtain⟨R1,ws1,ok,a1,a2,a3,a4,a5,a6⟩:=z0e hWd h3 hmr n hs ⟨fun r hr=>by have:=hB.1 r hr;omega,by have:=hB.2;omega⟩ first hi hc hD0 hw hcl
   rw[a1]
   have hcard1:=a2.card h3
   have hcard:=hi.card h3
   rw[hleft]
   cases ok with
   |false =>
    refine⟨R1,false,rfl,fun _=>?_,fun q=>by cases q⟩
    unfold zd9
    rw[if_neg]
    rintro⟨m,m1,m2⟩
    have:=zvs hcard1 m2 a4
    have:=a5 rfl
    omega
   |true =>
    obtain⟨b1,b2,b3⟩:=a6 rfl
    simp only
    have hsm:zrg (zc2 ar R1) mr:=⟨R1.count,b1,hcard1⟩
    have hsub:∀ p x,InD (zc2 ar R) p x->InD (zc2 ar R1) p x:=by rw[b2];exact z0d _ _ _
    by_cases hnew:R1.count > R.count
    ·rw[if_pos hnew]
     have hnot:¬ ∀ p x,InD (zc2 ar R1) p x->InD (zc2 ar R) p x:=fun q=>by
      have:=zvs hcard1 hcard q
      omega
     obtain⟨R2,ok2,c1,c2,c3⟩:=ih false ws1 R1 (zc2 ar R) a2 b1 (by omega) hsub b3 (fun _ p x hx=>by rw[b2];exact zwo p x hx) (by omega)
     have hl:mx - R1.rounds=left:=by omega
     have e:zd9 rs mr (left+1) R.rounds (zc2 ar R)=zd9 rs mr left R1.rounds (zc2 ar R1):=by
      rw[zd9,← b2,if_pos hsm,if_neg hnot,a3]
     rw[hl] at c2 c3
     exact⟨R2,ok2,c1,fun q=>by rw[e];exact c2 q,fun q=>by rw[e];exact c3 q⟩
    ·rw[if_neg hnew]
     have hall:=z1i hcard hcard1 hsub (by omega)
     refine⟨R1,true,rfl,fun q=>(by cases q),fun _=>⟨a2,b1,by omega,?_⟩⟩
     rw[zd9,← b2,if_pos hsm,if_pos hall,a3]
structure zrf (rs:List zah) (ar:List Nat) (W:Nat):Prop where
 rules:∀ r∈rs,znn r ar W
 apart:∀ r∈rs,∀ r'∈rs,r.stratum=r'.stratum->∀ l∈r.nots,l.pred≠r'.head.pred
theorem zrf.strat{rules:List zah}{ar:List Nat}{W:Nat}(h:zrf rules ar W)(s:Nat):znp (rules.filter fun r=>decide (r.stratum=s)) ar W:=by
 refine⟨fun r hr=>h.rules r (List.mem_filter.1 hr).1,fun r hr r' hr' l hl=>h.apart r (List.mem_filter.1 hr).1 r' (List.mem_filter.1 hr').1 ?_ l hl⟩
 have h1:=(List.mem_filter.1 hr).2
 have h2:=(List.mem_filter.1 hr').2
 simp at h1 h2
 omega
theorem zw1{ar:List Nat}{W wd:Nat}(hWd:W=za4 wd)(h3:∀ a∈ar,a<=3){mr mx:Nat}(hmr:mr<=1048576){rules:List zah}(hr:zrf rules ar W)(B:Nat)(hB:(∀ r∈rules,zf5 W r<=B)/\3 * (W+1)<=B)(fuel:Nat)(hfu:B+mx < fuel) :
  ∀(n s:Nat) (R:zbg),zey ar W R->R.count<=mr->R.rounds<=mx->∃ R' ok,zgg fuel wd mr mx rules n s R=some (R',ok)/\(ok=false->zez rules mr mx n s R.rounds (zc2 ar R)=none)/\(ok=true->zey ar W R'/\R'.count<=mr/\zez rules mr mx n s R.rounds (zc2 ar R)=some (zc2 ar R',R'.rounds)):=by
 intro n
 induction n with
 |zero=>intro s R hi hc _;exact⟨R,true,rfl,fun q=>(by cases q),fun _=>⟨hi,hc,rfl⟩⟩
 |succ n ih =>
  intro s R hi hc hk
  obtain⟨ws,w1,w2⟩:=zo8 hWd h3 hi (by omega) fuel (by have:=hB.2;omega) s rules (fun r hq l hl=>((hr.rules r hq).plain l hl).1)
  have hlen:=w2.length
  unfold zgg zls
  rw[w1]
  simp only
  unfold zez
  by_cases h0:(rules.filter fun r=>decide (r.stratum=s))=[]
  ·rw[if_pos h0]
   rw[h0] at hlen
   rw[if_neg (by simp at hlen;simp[hlen])]
   simp only
   exact ih (s+1) R hi hc hk
  ·rw[if_neg h0]
   have hpos:ws.length > 0:=by rw[hlen];exact List.length_pos_iff.2 h0
   rw[if_pos hpos]
   obtain⟨R1,ok,a1,a2,a3⟩:=zwp hWd h3 hmr (mx:=mx) (hr.strat s) B ⟨fun r hq=>hB.1 r (List.mem_filter.1 hq).1,hB.2⟩ fuel true ws R z3g hi hc hk (fun p x q=>by cases q) w2 (fun q=>by cases q) (by omega)
   rw[a1]
   cases ok with
   |false =>
    refine⟨R1,false,rfl,fun _=>?_,fun q=>by cases q⟩
    rw[a2 rfl]
   |true =>
    obtain⟨b1,b2,b3,b4⟩:=a3 rfl
    simp only
    rw[b4]
    exact ih (s+1) R1 b1 b2 b3
theorem zp4{ar:List Nat}{W:Nat}(h3:∀ a∈ar,a<=3){mr:Nat}(hmr:mr<=1048576){k:Nat}{D0:DB}{c0:List Nat}:∀(fs:List zim) (R:zbg),(∀ f∈fs,f.pred < ar.length/\Canon (ar.getD f.pred 0) f.row/\Small W f.row)->Mid ar W k D0 c0 R->R.count<=mr->∃ R' ok,zjy mr fs R=some (R',ok)/\Mid ar W k D0 c0 R'/\(∀ q x,x∈R.fresh.getD q []->x∈R'.fresh.getD q [])/\(∀ q x,x∈R'.fresh.getD q []->x∈R.fresh.getD q []∨∃ f∈fs,f.pred=q/\f.row=x)/\(ok=true->R'.count<=mr/\∀ f∈fs,InD (zc2 ar R') f.pred f.row)/\(ok=false->R'.count > mr)
 |[],R,_,hm,hc=>⟨R,true,rfl,hm,fun q x hx=>hx,fun q x hx=>Or.inl hx,fun _=>⟨hc,fun f hf=>by cases hf⟩,fun q=>by cases q⟩
 |f::fs,R,hf,hm,hc=>by
  obtain⟨f1,f2,f3⟩:=hf f (by simp)
  obtain⟨R1,ok,a1,a2,_,a4,a5,a6,a7,a8⟩:=hm.add h3 f1 f2 f3 hc hmr
  unfold zjy
  rw[a1]
  cases ok with
  |false =>
   refine⟨R1,false,rfl,a2,a5,fun q x hx=>?_,(fun q=>by cases q),a8⟩
   rcases a6 q x hx with z|⟨z1,z2⟩
   ·exact Or.inl z
   ·exact Or.inr ⟨f,by simp,z1.symm,z2.symm⟩
  |true =>
   simp only
   obtain⟨R2,ok2,b1,b2,b3,b4,b5,b6⟩:=zp4 h3 hmr fs R1 (fun x hx=>hf x (by simp[hx])) a2 (a7 rfl)
   refine⟨R2,ok2,b1,b2,fun q x hx=>b3 q x (a5 q x hx),fun q x hx=>?_,fun q=>⟨(b5 q).1,fun g hg=>?_⟩,b6⟩
   ·rcases b4 q x hx with z|⟨g,g1,g2⟩
    ·rcases a6 q x z with z|⟨z1,z2⟩
     ·exact Or.inl z
     ·exact Or.inr ⟨f,by simp,z1.symm,z2.symm⟩
    ·exact Or.inr ⟨g,by simp[g1],g2⟩
   ·rcases List.mem_cons.1 hg with rfl|hg
    ·exact a2.grow b2 b3 a4
    ·exact(b5 q).2 g hg
structure z4z (S:zsc):Prop where
 small:∀ a∈S.arities,a<=3
 facts:∀ f∈S.facts,f.pred < S.arities.length/\Canon (S.arities.getD f.pred 0) f.row/\Small (za4 S.width) f.row
 rules:zrf S.rules S.arities (za4 S.width)
theorem z4d(S:zsc):zey S.arities (za4 S.width) ⟨S.arities.map (zfv S.width),0,0,0,[]⟩:=by
 refine⟨by simp,fun p hp=>?_,?_⟩
 ·have hp':p < S.arities.length:=by simpa using hp
  simp only[List.getElem_map]
  refine⟨zd8.new _ _,zqi _ _,by rw[zgr,getD_lt _ hp'],fun k hk=>?_⟩
  obtain⟨k1,k2⟩:=(zbq _ k).1 hk
  rw[zne _ _ k (by rintro rfl;have:=(zec S.arities[p]).1;rw[zgr] at k1;simp at k1;omega)] at k2
  cases k2
 ·show 0=_
  rw[List.map_map]
  have:∀ l:List Nat,(l.map ((fun T:zad=>T.count) ∘ zfv S.width)).sum=0:=by
   intro l
   induction l with
   |nil=>rfl
   |cons a l ih=>simp only[List.map_cons,List.sum_cons,ih];rfl
  exact(this _).symm
theorem zuu(S:zsc)(p:Nat)(x:zao):zc2 S.arities ⟨S.arities.map (zfv S.width),0,0,0,[]⟩ p x=none:=by
 unfold zc2
 split
 ·rename_i hc
  have hp:p < (S.arities.map (zfv S.width)).length:=by simpa using hc.1
  show zdt ((S.arities.map (zfv S.width)).getD p zad.zero) x=none
  rw[getD_lt _ hp,List.getElem_map,(zd8.new _ _).mark x hc.2.1,zne]
  intro e
  have:=congrArg List.length e
  rw[List.length_take,hc.2.1,zgr] at this
  have:=zec S.arities[p]
  simp at *
  omega
 ·rfl
theorem z6y{S:zsc}(h:z4z S){mr mx:Nat}(hmr:mr<=1048576):∃ N,∀ fuel,N<=fuel->∃ res,z8z fuel S mr mx=some res/\(res=none->zjw S mr mx=none)/\∀ R,res=some R->zey S.arities (za4 S.width) R/\R.count<=mr/\zjw S mr mx=some (zc2 S.arities R,R.rounds):=by
 obtain⟨B,hB⟩:∃ B,(∀ r∈S.rules,zf5 (za4 S.width) r<=B)/\3 * (za4 S.width+1)<=B:=by
  have:∀ rs:List zah,∃ B,∀ r∈rs,zf5 (za4 S.width) r<=B:=by
   intro rs
   induction rs with
   |nil=>exact⟨0,fun r hr=>by cases hr⟩
   |cons a rs ih =>
    obtain⟨B,hB⟩:=ih
    refine⟨B+zf5 (za4 S.width) a,fun r hr=>?_⟩
    rcases List.mem_cons.1 hr with rfl|hr
    ·omega
    ·have:=hB r hr;omega
  obtain⟨B,hB⟩:=this S.rules
  exact⟨B+3 * (za4 S.width+1),fun r hr=>by have:=hB r hr;omega,by omega⟩
 refine⟨B+mx+1,fun fuel hfu=>?_⟩
 have hmid:=Mid.clear (z4d S)
 have hst:zfa ⟨S.arities.map (zfv S.width),0,0,0,[]⟩=zfl S:=rfl
 rw[hst] at hmid
 obtain⟨R,ok,a1,a2,a3,a4,a5,a6⟩:=zp4 h.small hmr S.facts (zfl S) h.facts hmid (Nat.zero_le _)
 have hfr:∀ q x,x∉(zfl S).fresh.getD q []:=fun q x hx=>by
  have hx':x∈(List.replicate (S.arities.map (zfv S.width)).length ([]:List zao)).getD q []:=hx
  have:∀ n,(List.replicate n ([]:List zao)).getD q []=[]:=fun n=>by by_cases hp:q < n <;> simp[List.getD,hp]
  rw[this] at hx'
  cases hx'
 have hsub:∀ p x,InD (zc2 S.arities R) p x->InD (zjx S.facts) p x:=by
  intro p x hx
  unfold InD at hx ⊢
  rw[a2.abs,zuu] at hx
  simp only at hx
  by_cases hm:x∈R.fresh.getD p []
  ·unfold zjx
   rw[if_pos ((a4 p x hm).resolve_left (hfr p x))];rfl
  ·rw[if_neg hm] at hx;cases hx
 unfold z8z
 rw[a1]
 cases ok with
 |false =>
  refine⟨none,rfl,fun _=>?_,fun R q=>by cases q⟩
  unfold zjw
  rw[if_neg]
  rintro⟨m,m1,m2⟩
  have:=zvs (a2.inv.card h.small) m2 hsub
  have:=a6 rfl
  omega
 |true =>
  obtain⟨b1,b2⟩:=a5 rfl
  have hrd:R.rounds=0:=a2.rounds
  have heq:zc2 S.arities R=zjx S.facts:=by
   funext p x
   have hA:=a2.abs p x
   rw[zuu] at hA
   simp only at hA
   rw[hA]
   unfold zjx
   by_cases hf:∃ f∈S.facts,f.pred=p/\f.row=x
   ·rw[if_pos hf]
    obtain⟨f,f1,rfl,rfl⟩:=hf
    have:=b2 f f1
    unfold InD at this
    rw[hA] at this
    by_cases hm:f.row∈R.fresh.getD f.pred []
    ·rw[if_pos hm]
    ·rw[if_neg hm] at this;cases this
   ·rw[if_neg hf,if_neg]
    intro hm
    exact hf ((a4 p x hm).resolve_left (hfr p x))
  have hsm:zrg (zjx S.facts) mr:=⟨R.count,b1,by rw[← heq];exact a2.inv.card h.small⟩
  obtain⟨R1,ok1,c1,c2,c3⟩:=zw1 rfl h.small hmr (mx:=mx) h.rules B hB fuel (by omega) S.arities.length 0 R a2.inv b1 (by omega)
  simp only[c1,Option.map_some]
  rw[hrd,heq] at c2 c3
  have habs:zjw S mr mx=zez S.rules mr mx S.arities.length 0 0 (zjx S.facts):=by
   unfold zjw
   rw[if_pos hsm]
  cases ok1 with
  |false=>exact⟨none,rfl,fun _=>by rw[habs];exact c2 rfl,fun R q=>by cases q⟩
  |true =>
   refine⟨some R1,rfl,(fun q=>by cases q),fun R2 q=>?_⟩
   simp only[Option.some.injEq] at q
   subst q
   obtain⟨d1,d2,d3⟩:=c3 rfl
   exact⟨d1,d2,by rw[habs];exact d3⟩
end Go.Proofs.YteampbddflhngabGreat
namespace Go.Proofs.YteampbddflhngabGreat
theorem z6h{v t:ByteArray}{vs:List ByteArray}:v∈zse vs t↔v∈vs∨(v=t/\za8 v=true):=by
 unfold zse
 cases hv:za8 t with
 |false =>
  simp only[Bool.false_and,Bool.false_eq_true,if_false]
  exact⟨Or.inl,fun h=>h.elim id fun x=>by have g:=x.2;rw[x.1,hv] at g;cases g⟩
 |true =>
  cases hm:zpl t vs with
  |true =>
   simp only[Bool.not_true,Bool.and_false,Bool.false_eq_true,if_false]
   exact⟨Or.inl,fun h=>h.elim id fun⟨e,_⟩=>by subst e;exact zf4.1 hm⟩
  |false =>
   simp only[Bool.not_false,Bool.and_true,if_true,List.mem_append,List.mem_singleton]
   exact⟨fun h=>h.elim Or.inl fun e=>Or.inr ⟨e,by rw[e];exact hv⟩,fun h=>h.elim Or.inl fun e=>Or.inr e.1⟩
theorem zlf{v:ByteArray}:∀ {args vs:List ByteArray},v∈ze0 vs args↔v∈vs∨(v∈args/\za8 v=true)
 |[],vs=>by simp[ze0]
 |t::r,vs=>by
  show v∈ze0 (zse vs t) r↔_
  rw[zlf,z6h,List.mem_cons]
  constructor
  ·rintro((h|⟨h,g⟩)|⟨h,g⟩)
   ·exact Or.inl h
   ·exact Or.inr ⟨Or.inl h,g⟩
   ·exact Or.inr ⟨Or.inr h,g⟩
  ·rintro(h|⟨h|h,g⟩)
   ·exact Or.inl (Or.inl h)
   ·exact Or.inl (Or.inr ⟨h,g⟩)
   ·exact Or.inr ⟨h,g⟩
theorem zt7{v:ByteArray}:∀ {ls:List zbp} {vs:List ByteArray},v∈ls.foldl zkh vs↔v∈vs∨(za8 v=true/\∃ l∈ls,v∈l.args)
 |[],vs=>by simp
 |l::r,vs=>by
  rw[List.foldl_cons,zt7,zkh,zlf]
  simp only[List.mem_cons,exists_eq_or_imp]
  constructor
  ·rintro((h|⟨h,g⟩)|⟨g,h⟩)
   ·exact Or.inl h
   ·exact Or.inr ⟨g,Or.inl h⟩
   ·exact Or.inr ⟨g,Or.inr h⟩
  ·rintro(h|⟨g,h|h⟩)
   ·exact Or.inl (Or.inl h)
   ·exact Or.inl (Or.inr ⟨h,g⟩)
   ·exact Or.inr ⟨g,h⟩
theorem zqg{v:ByteArray}:∀ {ls:List zbp} {vs:List ByteArray},v∈ls.foldl zer vs↔v∈vs∨(za8 v=true/\∃ l∈ls,l.neg=false/\v∈l.args)
 |[],vs=>by simp
 |l::r,vs=>by
  rw[List.foldl_cons,zqg,zer]
  simp only[List.mem_cons,exists_eq_or_imp]
  cases hn:l.neg with
  |true=>simp
  |false =>
   rw[if_neg (by simp),zlf]
   constructor
   ·rintro((h|⟨h,g⟩)|⟨g,h⟩)
    ·exact Or.inl h
    ·exact Or.inr ⟨g,Or.inl ⟨rfl,h⟩⟩
    ·exact Or.inr ⟨g,Or.inr h⟩
   ·rintro(h|⟨g,⟨-,h⟩|h⟩)
    ·exact Or.inl (Or.inl h)
    ·exact Or.inl (Or.inr ⟨h,g⟩)
    ·exact Or.inr ⟨g,h⟩
theorem z3a{v:ByteArray}{c:zab}:v∈zj7 c↔za8 v=true/\(v∈c.head.args∨∃ l∈c.body,v∈l.args):=by
 unfold zj7
 rw[zt7,zlf]
 constructor
 ·rintro((h|⟨h,g⟩)|⟨g,h⟩)
  ·exact absurd h (by simp)
  ·exact⟨g,Or.inl h⟩
  ·exact⟨g,Or.inr h⟩
 ·rintro⟨g,h|h⟩
  ·exact Or.inl (Or.inr ⟨h,g⟩)
  ·exact Or.inr ⟨g,h⟩
theorem zh6{v:ByteArray}{c:zab}:v∈zaf c↔za8 v=true/\∃ l∈c.body,l.neg=false/\v∈l.args:=by
 unfold zaf;rw[zqg];simp
theorem ziv{vs args:List ByteArray}:zfb vs args=true↔∀ t∈args,za8 t=true->t∈vs:=by
 unfold zfb
 rw[List.all_eq_true]
 constructor
 ·intro h t ht hv
  have:=h t ht
  rw[hv,Bool.not_true,Bool.false_or] at this
  exact zf4.1 this
 ·intro h t ht
  cases hv:za8 t with
  |false=>rfl
  |true=>rw[Bool.not_true,Bool.false_or];exact zf4.2 (h t ht hv)
end Go.Proofs.YteampbddflhngabGreat
