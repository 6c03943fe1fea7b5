import Derived.Test.YteampbddflhngaaGreatB19

namespace Go.Proofs.YteampbddflhngaaGreat
structure zhs (w:Nat) (n:zhz):Prop where
 len:n.leap.length=w
 dlen:n.down.length=w
 ge:∀ i,i < w->i<=n.leap.getD i 0
 le:∀ i,i < w->n.leap.getD i 0<=w
 fix:∀ i,i < w->n.leap.getD i 0 < w->n.leap.getD (n.leap.getD i 0) 0=n.leap.getD i 0
 seg:∀ i j,i < w->i<=j->j < n.leap.getD i 0->n.leap.getD j 0=n.leap.getD i 0
theorem zan(l:List Nat)(i j v d:Nat):(l.set i v).getD j d=if i=j/\i < l.length then v else l.getD j d:=by
 simp only[List.getD_eq_getElem?_getD,List.getElem?_set]
 by_cases h:i=j
 ·subst h
  by_cases h2:i < l.length
  ·simp[h2]
  ·simp[h2]
 ·simp[h]
theorem zpr(v:Nat):∀(n:Nat) (l:List Nat),(zgs v n l).length=l.length
 |0,l=>rfl
 |n+1,l=>by
  unfold zgs
  split
  ·rw[zpr];simp
  ·rfl
open Classical in
theorem zu9(v:Nat):∀(n:Nat) (l:List Nat) (u:Nat),n<=l.length->(zgs v n l).getD u 0=if u < n/\∀ j,u<=j->j < n->l.getD j 0 > v then v else l.getD u 0
 |0,l,u,_=>by simp[zgs]
 |n+1,l,u,h=>by
  unfold zgs
  by_cases hg:l.getD n 0 > v
  ·rw[if_pos hg,zu9 v n (l.set n v) u (by simp;omega)]
   by_cases hu:u < n
   ·by_cases ha:∀ j,u<=j->j < n->l.getD j 0 > v
    ·rw[if_pos ⟨hu,fun j h1 h2=>by rw[zan,if_neg (by omega)];exact ha j h1 h2⟩,if_pos ⟨by omega,fun j h1 h2=>by
      by_cases hj:j=n
      ·subst hj;exact hg
      ·exact ha j h1 (by omega)⟩]
    ·rw[if_neg (fun q=>ha fun j h1 h2=>by have:=q.2 j h1 h2;rwa [zan,if_neg (by omega)] at this),if_neg (fun q=>ha fun j h1 h2=>q.2 j h1 (by omega)),zan,if_neg (by omega)]
   ·rw[if_neg (fun q=>hu q.1),zan]
    by_cases hn:n=u
    ·subst hn
     rw[if_pos ⟨rfl,by omega⟩,if_pos ⟨by omega,fun j h1 h2=>by
      have:j=n:=by omega
      subst this;exact hg⟩]
    ·rw[if_neg (by omega),if_neg (by omega)]
  ·rw[if_neg hg]
   by_cases hu:u < n+1
   ·rw[if_neg (fun q=>hg (q.2 n (by omega) (by omega)))]
   ·rw[if_neg (fun q=>hu q.1)]
def z9q(w:Nat)(n:zhz)(v:Nat):Prop:=v < w/\n.leap.getD v 0=v
theorem zhs.none{w:Nat}{n:zhz}(h:zhs w n){i:Nat}(hi:i < w)(hw:¬ n.leap.getD i 0 < w):∀ u,i<=u->¬ z9q w n u:=by
 intro u hu ⟨h1,h2⟩
 have:=h.seg i u hi hu (by omega)
 omega
theorem zhs.some{w:Nat}{n:zhz}(h:zhs w n){i:Nat}(hi:i < w)(hw:n.leap.getD i 0 < w):i<=n.leap.getD i 0/\z9q w n (n.leap.getD i 0)/\∀ u,i<=u->u < n.leap.getD i 0->¬ z9q w n u:=by
 refine⟨h.ge i hi,⟨hw,h.fix i hi hw⟩,fun u h1 h2 ⟨h3,h4⟩=>?_⟩
 have:=h.seg i u hi h1 h2
 omega
theorem zhs.put{w:Nat}{n:zhz}(h:zhs w n){v d:Nat}(hv:v < w)(hn:¬ z9q w n v):zhs w (z8o n v d)/\(∀ u,z9q w (z8o n v d) u↔u=v∨z9q w n u)/\∀ u,(z8o n v d).down.getD u 0=if u=v then d else n.down.getD u 0:=by
 have hl:=h.len
 have hgt:n.leap.getD v 0 > v:=by
  have h1:=h.ge v hv
  rcases Nat.lt_or_eq_of_le h1 with q|q
  ·exact q
  ·exact absurd ⟨hv,q.symm⟩ hn
 have hat:∀ u,(zgs v (v+1) n.leap).getD u 0=if u<=v/\n.leap.getD u 0 > v then v else n.leap.getD u 0:=by
  intro u
  rw[zu9 v (v+1) n.leap u (by omega)]
  by_cases hu:u<=v
  ·by_cases hq:n.leap.getD u 0 > v
   ·have key:∀ j,u<=j->j < v+1->n.leap.getD j 0 > v:=fun j h1 h2=>by
     have:=h.seg u j (by omega) h1 (by omega)
     omega
    rw[if_pos ⟨by omega,key⟩,if_pos ⟨hu,hq⟩]
   ·rw[if_neg (fun q=>hq (q.2 u (Nat.le_refl _) (by omega))),if_neg (fun q=>hq q.2)]
  ·rw[if_neg (fun q=>by omega),if_neg (fun q=>by omega)]
 have hp:∀ u,(z8o n v d).leap.getD u 0=if u<=v/\n.leap.getD u 0 > v then v else n.leap.getD u 0:=hat
 have hself:(z8o n v d).leap.getD v 0=v:=by rw[hp,if_pos ⟨Nat.le_refl _,hgt⟩]
 refine⟨⟨by simp[z8o,zpr,hl],by simp[z8o,h.dlen],fun i hi=>?_,fun i hi=>?_,fun i hi hq=>?_,fun i j hi hij hj=>?_⟩,fun u=>?_,fun u=>?_⟩
 ·rw[hp];split
  ·omega
  ·exact h.ge i hi
 ·rw[hp];split
  ·omega
  ·exact h.le i hi
 ·by_cases hc:i<=v/\n.leap.getD i 0 > v
  ·rw[hp i,if_pos hc];exact hself
  ·rw[hp i,if_neg hc] at hq ⊢
   have h2:=h.fix i hi hq
   rw[hp]
   by_cases hc2:n.leap.getD i 0<=v/\n.leap.getD (n.leap.getD i 0) 0 > v
   ·omega
   ·rw[if_neg hc2];exact h2
 ·by_cases hc:i<=v/\n.leap.getD i 0 > v
  ·rw[hp i,if_pos hc] at hj ⊢
   have:=h.seg i j hi hij (by omega)
   rw[hp,if_pos ⟨by omega,by omega⟩]
  ·rw[hp i,if_neg hc] at hj ⊢
   have:=h.seg i j hi hij hj
   rw[hp,this]
   have:=h.ge i hi
   rw[if_neg (by omega)]
 ·unfold z9q
  rw[hp]
  by_cases hc:u<=v/\n.leap.getD u 0 > v
  ·rw[if_pos hc]
   constructor
   ·rintro⟨_,q⟩;exact Or.inl q.symm
   ·rintro(q|q)
    ·subst q;exact⟨hv,rfl⟩
    ·omega
  ·rw[if_neg hc]
   constructor
   ·intro q;exact Or.inr q
   ·rintro(q|q)
    ·subst q;exact absurd ⟨Nat.le_refl _,hgt⟩ hc
    ·exact q
 ·show(n.down.set v d).getD u 0=_
  rw[zan]
  by_cases hu:u=v
  ·subst hu;rw[if_pos ⟨rfl,by rw[h.dlen];exact hv⟩,if_pos rfl]
  ·rw[if_neg (by omega),if_neg hu]
theorem zju(k d i:Nat)(hi:i < k)(x:Nat):(List.replicate k x).getD i d=x:=by simp[List.getD_eq_getElem?_getD,hi]
theorem zhs.new(w:Nat):zhs w ⟨List.replicate w w,List.replicate w 0⟩/\∀ v,¬ z9q w ⟨List.replicate w w,List.replicate w 0⟩ v:=by
 refine⟨⟨by simp,by simp,fun i hi=>?_,fun i hi=>?_,fun i hi hq=>?_,fun i j hi hij hj=>?_⟩,fun v ⟨h1,h2⟩=>?_⟩ <;> simp only at *
 ·rw[zju _ _ _ hi];omega
 ·rw[zju _ _ _ hi];exact Nat.le_refl _
 ·rw[zju _ _ _ hi] at hq;omega
 ·rw[zju _ _ _ hi] at hj ⊢;rw[zju _ _ _ hj]
 ·rw[zju _ _ _ h1] at h2;omega
end Go.Proofs.YteampbddflhngaaGreat

namespace Go.Proofs.YteampbddflhngaaGreat
def zjh(T:zae)(a:Nat):zhz:=T.nodes.getD a zhz.zero
def zhc(T:zae):Prop:=∀ a,a < T.nodes.length->zhs T.width (zjh T a)
theorem zgw(T:zae)(a v:Nat):zax T a v=if a < T.nodes.length/\v < T.width/\(zjh T a).leap.getD v 0=v then some ((zjh T a).down.getD v 0) else none:=by
 unfold zax zco zjh
 by_cases h1:a < T.nodes.length/\v < T.width
 ·rw[if_pos h1]
  dsimp only
  generalize (T.nodes.getD a zhz.zero).leap.getD v 0=x
  by_cases h2:x=v
  ·subst h2
   rw[if_neg (by omega:¬ x ≥ T.width)]
   simp[h1]
  ·by_cases h3:x ≥ T.width
   ·simp[h3,h2]
   ·simp[h3,h2]
 ·rw[if_neg h1,if_neg (fun q=>h1 ⟨q.1,q.2.1⟩)]
theorem zhd{T:zae}{a v b:Nat}(h:zax T a v=some b):a < T.nodes.length/\v < T.width:=by
 unfold zax zco at h
 by_cases h1:a < T.nodes.length/\v < T.width
 ·exact h1
 ·rw[if_neg h1] at h;cases h
theorem zwb{T:zae}(h:zhc T){a f v:Nat}(hl:zco T a f=some v):f<=v/\v < T.width/\(zax T a v).isSome=true/\∀ u,f<=u->u < v->zax T a u=none:=by
 unfold zco at hl
 split at hl
 ·rename_i h1
  simp only at hl
  split at hl
  ·cases hl
  ·rename_i h2
   simp only[Option.some.injEq] at hl
   have hn:=(h a h1.1).some h1.2 (by unfold zjh;omega)
   unfold zjh at hn
   rw[hl] at hn h2
   refine⟨hn.1,by omega,?_,fun u h3 h4=>?_⟩
   ·rw[zgw,if_pos ⟨h1.1,by omega,hn.2.1.2⟩];rfl
   ·rw[zgw,if_neg (fun q=>hn.2.2 u h3 h4 ⟨q.2.1,q.2.2⟩)]
 ·cases hl
theorem zv0{T:zae}(h:zhc T){a f:Nat}(hl:zco T a f=none):∀ u,f<=u->zax T a u=none:=by
 intro u hu
 rw[zgw]
 refine if_neg fun q=>?_
 unfold zco at hl
 rw[if_pos ⟨q.1,by omega⟩] at hl
 simp only at hl
 split at hl
 ·rename_i h2
  exact(h a q.1).none (show f < T.width by omega) (by unfold zjh;omega) u hu ⟨q.2.1,q.2.2⟩
 ·cases hl
def goT(T:zae):Nat->zas->Option Nat
 |a,[]=>some a
 |a,v::r=>match zax T a v with
  |none=>none
  |some b=>goT T b r
theorem zf3(T:zae):∀(p q:zas) (a:Nat),goT T a (p++q)=(goT T a p).bind fun b=>goT T b q
 |[],q,a=>rfl
 |v::p,q,a=>by
  simp only[List.cons_append,goT]
  cases zax T a v with
  |none=>rfl
  |some b=>exact zf3 T p q b
structure ze2 (T:zae) (pth:Nat->zas):Prop where
 dep:1<=T.depth/\T.depth<=3
 wid:1<=T.width
 pos:0 < T.nodes.length
 node:zhc T
 root:pth 0=[]
 lev:∀ a,a < T.nodes.length->(pth a).length < T.depth
 inj:∀ a b,a < T.nodes.length->b < T.nodes.length->pth a=pth b->a=b
 kid:∀ a v b,zax T a v=some b->(pth a).length+1 < T.depth->b < T.nodes.length/\pth b=pth a++[v]
 par:∀ b,b < T.nodes.length->b≠0->∃ a v,zax T a v=some b/\(pth a).length+1 < T.depth/\pth b=pth a++[v]
theorem z6x(l:List zhz)(i j:Nat)(v d:zhz):(l.set i v).getD j d=if i=j/\i < l.length then v else l.getD j d:=by
 simp only[List.getD_eq_getElem?_getD,List.getElem?_set]
 by_cases h:i=j
 ·subst h
  by_cases h2:i < l.length
  ·simp[h2]
  ·simp[h2]
 ·simp[h]
theorem zzi(T:zae)(a v d b:Nat)(ha:a < T.nodes.length)(hv:v < T.width):zjh (ze8 T a v d) b=if b=a then z8o (zjh T a) v d else zjh T b:=by
 unfold ze8 zjh
 rw[if_pos ⟨ha,hv⟩]
 simp only
 rw[z6x]
 by_cases h:b=a
 ·subst h;rw[if_pos ⟨rfl,ha⟩,if_pos rfl]
 ·rw[if_neg (fun q=>h q.1.symm),if_neg h]
theorem zhy(T:zae)(a v d:Nat):(ze8 T a v d).nodes.length=T.nodes.length:=by unfold ze8;split <;> simp
theorem zi8(T:zae)(a v d:Nat):(ze8 T a v d).width=T.width:=by unfold ze8;split <;> rfl
theorem zh5(T:zae)(a v d:Nat):(ze8 T a v d).depth=T.depth:=by unfold ze8;split <;> rfl
theorem zww(T:zae)(a v d:Nat):(ze8 T a v d).count=T.count:=by unfold ze8;split <;> rfl
theorem zzd{T:zae}(h:zhc T){a v d:Nat}(ha:a < T.nodes.length)(hv:v < T.width)(hn:zax T a v=none):zhc (ze8 T a v d)/\∀ b u,zax (ze8 T a v d) b u=if b=a/\u=v then some d else zax T b u:=by
 have hnh:¬ z9q T.width (zjh T a) v:=fun q=>by rw[zgw,if_pos ⟨ha,hv,q.2⟩] at hn;cases hn
 obtain⟨p1,p2,p3⟩:=(h a ha).put (d:=d) hv hnh
 have hok:zhc (ze8 T a v d):=by
  intro b hb
  rw[zhy] at hb
  rw[zi8,zzi T a v d b ha hv]
  split
  ·exact p1
  ·exact h b hb
 refine⟨hok,fun b u=>?_⟩
 rw[zgw,zhy,zi8,zzi T a v d b ha hv,zgw]
 by_cases hb:b=a
 ·subst hb
  rw[if_pos rfl,p3]
  by_cases hu:u=v
  ·subst hu
   rw[if_pos rfl,if_pos ⟨ha,hv,((p2 u).2 (Or.inl rfl)).2⟩,if_pos ⟨rfl,rfl⟩]
  ·rw[if_neg hu,if_neg (fun q:b=b/\u=v=>hu q.2)]
   by_cases hq:b < T.nodes.length/\u < T.width/\(zjh T b).leap.getD u 0=u
   ·rw[if_pos hq,if_pos ⟨hq.1,hq.2.1,((p2 u).2 (Or.inr hq.2)).2⟩]
   ·rw[if_neg hq]
    refine if_neg fun q=>hq ⟨q.1,?_⟩
    rcases(p2 u).1 q.2 with r|r
    ·exact absurd r hu
    ·exact r
 ·rw[if_neg hb,if_neg (fun q:b=a/\u=v=>hb q.1)]
theorem z6v{T:zae}(h:zhc T):zhc (zca T)/\∀ b u,zax (zca T) b u=zax T b u:=by
 have hnd:∀ b,zjh (zca T) b=if b < T.nodes.length then zjh T b else if b=T.nodes.length then⟨List.replicate T.width T.width,List.replicate T.width 0⟩ else zhz.zero:=by
  intro b
  unfold zjh zca
  simp only[List.getD_eq_getElem?_getD,List.getElem?_append]
  by_cases h1:b < T.nodes.length
  ·simp[h1]
  ·rw[if_neg h1,if_neg h1]
   by_cases h2:b=T.nodes.length
   ·subst h2;simp
   ·rw[if_neg h2]
    rw[List.getElem?_eq_none (by simp;omega)];rfl
 have hln:(zca T).nodes.length=T.nodes.length+1:=by simp[zca]
 have hok:zhc (zca T):=by
  intro b hb
  rw[hln] at hb
  rw[hnd]
  by_cases h1:b < T.nodes.length
  ·rw[if_pos h1];exact h b h1
  ·rw[if_neg h1,if_pos (by omega)];exact(zhs.new T.width).1
 refine⟨hok,fun b u=>?_⟩
 rw[zgw,zgw,hnd,hln,show(zca T).width=T.width from rfl]
 by_cases h1:b < T.nodes.length
 ·rw[if_pos h1]
  by_cases hq:u < T.width/\(zjh T b).leap.getD u 0=u
  ·rw[if_pos ⟨by omega,hq⟩,if_pos ⟨h1,hq⟩]
  ·rw[if_neg (fun q=>hq q.2),if_neg (fun q=>hq q.2)]
 ·rw[if_neg h1,if_neg (fun q:b < T.nodes.length/\_=>h1 q.1)]
  by_cases h2:b=T.nodes.length
  ·rw[if_pos h2]
   exact if_neg fun q=>(zhs.new T.width).2 u q.2
  ·exact if_neg fun q=>by omega
end Go.Proofs.YteampbddflhngaaGreat

namespace Go.Proofs.YteampbddflhngaaGreat
def zke(T:zae)(q:zas):Option Nat:=goT T 0 q
structure Added (T T':zae) (key:zas) (m:Nat) (new:Bool) (room:Nat):Prop where
 inv:∃ pth',ze2 T' pth'
 width:T'.width=T.width
 depth:T'.depth=T.depth
 is:new=(zke T key).isNone
 same:new=false->T'=T
 more:new=true->T'.count=T.count+1/\T'.nodes.length<=T.nodes.length+room
 sem:∀ q,q.length=T.depth->zke T' q=if q=key then some ((zke T q).getD m) else zke T q
theorem ze2.grow{T:zae}{pth:Nat->zas}(h:ze2 T pth){a v:Nat}(ha:a < T.nodes.length)(hv:v < T.width)(hl:(pth a).length+1 < T.depth)(hn:zax T a v=none) :
  ze2 (ze8 (zca T) a v T.nodes.length) (fun c=>if c=T.nodes.length then pth a++[v] else pth c)/\(∀ b u,zax (ze8 (zca T) a v T.nodes.length) b u=if b=a/\u=v then some T.nodes.length else zax T b u)/\(ze8 (zca T) a v T.nodes.length).nodes.length=T.nodes.length+1/\(ze8 (zca T) a v T.nodes.length).width=T.width/\(ze8 (zca T) a v T.nodes.length).depth=T.depth/\(ze8 (zca T) a v T.nodes.length).count=T.count:=by
 have hg:=z6v h.node
 have hln:(zca T).nodes.length=T.nodes.length+1:=by simp[zca]
 obtain⟨s1,s2⟩:=zzd hg.1 (a:=a) (v:=v) (d:=T.nodes.length) (by rw[hln];omega) (show v < (zca T).width from hv) (by rw[hg.2];exact hn)
 have hd:∀ b u,zax (ze8 (zca T) a v T.nodes.length) b u=if b=a/\u=v then some T.nodes.length else zax T b u:=fun b u=>by rw[s2,hg.2]
 have hl1:(ze8 (zca T) a v T.nodes.length).nodes.length=T.nodes.length+1:=by rw[zhy,hln]
 have hw1:(ze8 (zca T) a v T.nodes.length).width=T.width:=by rw[zi8];rfl
 have hd1:(ze8 (zca T) a v T.nodes.length).depth=T.depth:=by rw[zh5];rfl
 have hc1:(ze8 (zca T) a v T.nodes.length).count=T.count:=by rw[zww];rfl
 have hp:=h.pos
 have hfresh:∀ c,c < T.nodes.length->pth c≠pth a++[v]:=by
  intro c hc e
  have hc0:c≠0:=by rintro rfl;rw[h.root] at e;exact absurd e.symm (by simp)
  obtain⟨a',v',q1,q2,q3⟩:=h.par c hc hc0
  rw[e] at q3
  have e1:=List.append_inj' q3 rfl
  have e2:=h.inj a a' ha (zhd q1).1 e1.1
  subst e2
  simp only[List.cons.injEq,and_true] at e1
  rw[← e1.2] at q1
  rw[q1] at hn;cases hn
 refine⟨⟨by rw[hd1];exact h.dep,by rw[hw1];exact h.wid,by rw[hl1];omega,s1,?_,fun c hc=>?_,fun c d hc hdd e=>?_,fun c u b hcb hlc=>?_,fun b hb hb0=>?_⟩,hd,hl1,hw1,hd1,hc1⟩
 ·rw[if_neg (by omega)];exact h.root
 ·rw[hl1] at hc
  rw[hd1]
  by_cases e:c=T.nodes.length
  ·rw[if_pos e];simp;omega
  ·rw[if_neg e];exact h.lev c (by omega)
 ·rw[hl1] at hc hdd
  by_cases e1:c=T.nodes.length
  ·by_cases e2:d=T.nodes.length
   ·rw[e1,e2]
   ·rw[if_pos e1,if_neg e2] at e
    exact absurd e.symm (hfresh d (by omega))
  ·by_cases e2:d=T.nodes.length
   ·rw[if_neg e1,if_pos e2] at e
    exact absurd e (hfresh c (by omega))
   ·rw[if_neg e1,if_neg e2] at e
    exact h.inj c d (by omega) (by omega) e
 ·rw[hd] at hcb
  rw[hd1] at hlc
  rw[hl1]
  by_cases e:c=a/\u=v
  ·rw[if_pos e] at hcb
   simp only[Option.some.injEq] at hcb
   obtain⟨rfl,rfl⟩:=e
   subst hcb
   rw[if_pos rfl,if_neg (by omega)]
   exact⟨by omega,rfl⟩
  ·rw[if_neg e] at hcb
   have hcl:=(zhd hcb).1
   rw[if_neg (by omega)] at hlc
   obtain⟨k1,k2⟩:=h.kid c u b hcb hlc
   rw[if_neg (by omega),if_neg (by omega)]
   exact⟨by omega,k2⟩
 ·rw[hl1] at hb
  by_cases e:b=T.nodes.length
  ·refine⟨a,v,by rw[hd,if_pos ⟨rfl,rfl⟩,e],by rw[if_neg (by omega),hd1];exact hl,by rw[if_pos e,if_neg (by omega)]⟩
  ·obtain⟨c,u,q1,q2,q3⟩:=h.par b (by omega) hb0
   have hcl:=(zhd q1).1
   refine⟨c,u,?_,by rw[if_neg (by omega),hd1];exact q2,by rw[if_neg e,if_neg (by omega)];exact q3⟩
   rw[hd,if_neg]
   ·exact q1
   ·rintro⟨rfl,rfl⟩;rw[hn] at q1;cases q1
theorem ze2.grow_sem{T T1:zae}{pth:Nat->zas}(h:ze2 T pth){a v:Nat}(hl:(pth a).length+1 < T.depth)(hn:zax T a v=none)(hd:∀ b u,zax T1 b u=if b=a/\u=v then some T.nodes.length else zax T b u):∀(q:zas) (c:Nat),c < T.nodes.length->(pth c).length+q.length=T.depth->goT T1 c q=goT T c q
 |[],c,_,_=>rfl
 |u::q,c,hc,he=>by
  simp only[goT,hd]
  simp only[List.length_cons] at he
  by_cases e:c=a/\u=v
  ·obtain⟨rfl,rfl⟩:=e
   rw[if_pos ⟨rfl,rfl⟩,hn]
   simp only
   cases q with
   |nil=>simp at he;omega
   |cons x q =>
    simp only[goT,hd]
    by_cases hca:c=T.nodes.length
    ·omega
    ·rw[if_neg (fun q=>hca q.1.symm)]
     cases hx:zax T T.nodes.length x with
     |none=>rfl
     |some y=>have:=(zhd hx).1;omega
  ·rw[if_neg e]
   cases hx:zax T c u with
   |none=>rfl
   |some b =>
    simp only
    by_cases hq:(pth c).length+1 < T.depth
    ·obtain⟨k1,k2⟩:=h.kid c u b hx hq
     exact h.grow_sem hl hn hd q b k1 (by rw[k2];simp;omega)
    ·cases q with
     |nil=>rfl
     |cons x q=>simp at he;omega
theorem ze2.put_sem{T T1:zae}{pth:Nat->zas}(h:ze2 T pth){a v m:Nat}(hl:(pth a).length+1=T.depth)(ha:a < T.nodes.length)(hn:zax T a v=none)(hd:∀ b u,zax T1 b u=if b=a/\u=v then some m else zax T b u):∀(q:zas) (c:Nat),c < T.nodes.length->(pth c).length+q.length=T.depth->goT T1 c q=if pth c++q=pth a++[v] then some m else goT T c q
 |[],c,hc,he=>by have:=h.lev c hc;simp at he;omega
 |u::q,c,hc,he=>by
  simp only[goT,hd]
  simp only[List.length_cons] at he
  by_cases hq:(pth c).length+1 < T.depth
  ·have hca:c≠a:=by rintro rfl;omega
   rw[if_neg (fun q=>hca q.1)]
   cases hx:zax T c u with
   |none =>
    simp only
    rw[if_neg]
    intro e
    have key:∀(k:Nat) (q:zas) (b:Nat),q.length=k->b < T.nodes.length->pth c++u::q=pth b->False:=by
     intro k
     induction k with
     |zero =>
      intro q b hk hb e
      have:q=[]:=List.length_eq_zero_iff.1 hk
      subst this
      have hb0:b≠0:=by rintro rfl;rw[h.root] at e;simp at e
      obtain⟨x,y,q1,q2,q3⟩:=h.par b hb hb0
      rw[← e] at q3
      have e1:=List.append_inj' q3 rfl
      have:=h.inj c x hc (zhd q1).1 e1.1
      subst this
      simp only[List.cons.injEq,and_true] at e1
      rw[← e1.2,hx] at q1
      cases q1
     |succ k ih =>
      intro q b hk hb e
      have hb0:b≠0:=by rintro rfl;rw[h.root] at e;simp at e
      obtain⟨x,y,q1,q2,q3⟩:=h.par b hb hb0
      have hqn:q≠[]:=by rintro rfl;simp at hk
      have hsp:q=q.dropLast++[q.getLast hqn]:=(List.dropLast_concat_getLast hqn).symm
      rw[← e,hsp] at q3
      have e3:(pth c++u::q.dropLast)++[q.getLast hqn]=pth x++[y]:=by rw[← q3];simp
      have e1:=List.append_inj' e3 rfl
      exact ih q.dropLast x (by simp[hk]) (zhd q1).1 e1.1
    have hqn:q≠[]:=by rintro rfl;simp at he;omega
    have hsp:q=q.dropLast++[q.getLast hqn]:=(List.dropLast_concat_getLast hqn).symm
    rw[hsp] at e
    have e3:(pth c++u::q.dropLast)++[q.getLast hqn]=pth a++[v]:=by rw[← e];simp
    have e1:=List.append_inj' e3 rfl
    exact key _ q.dropLast a rfl ha e1.1
   |some b =>
    simp only
    obtain⟨k1,k2⟩:=h.kid c u b hx hq
    rw[h.put_sem hl ha hn hd q b k1 (by rw[k2];simp;omega),k2]
    simp
  ·have hq0:q=[]:=List.length_eq_zero_iff.1 (by have:=h.lev c hc;omega)
   subst hq0
   by_cases e:c=a/\u=v
   ·obtain⟨rfl,rfl⟩:=e
    simp[goT]
   ·rw[if_neg e]
    have hne:¬ pth c++[u]=pth a++[v]:=by
     intro e2
     have e1:=List.append_inj' e2 rfl
     exact e ⟨h.inj c a hc ha e1.1,by simpa using e1.2⟩
    rw[if_neg hne]
    cases zax T c u <;> rfl
theorem ze2.reach{T:zae}{pth:Nat->zas}(h:ze2 T pth):∀(k:Nat) (b:Nat),b < T.nodes.length->(pth b).length=k->goT T 0 (pth b)=some b:=by
 intro k
 induction k with
 |zero =>
  intro b hb hk
  have e:pth b=pth 0:=by rw[h.root];exact List.length_eq_zero_iff.1 hk
  have:=h.inj b 0 hb h.pos e
  subst this
  rw[h.root];rfl
 |succ k ih =>
  intro b hb hk
  have hb0:b≠0:=by rintro rfl;rw[h.root] at hk;simp at hk
  obtain⟨x,y,q1,q2,q3⟩:=h.par b hb hb0
  have hx:=ih x (zhd q1).1 (by rw[q3] at hk;simpa using hk)
  rw[q3,zf3,hx]
  simp[goT,q1]
theorem zjd(m:Nat):∀(r:zas) (T:zae) (pth:Nat->zas) (a:Nat),ze2 T pth->a < T.nodes.length->T.depth<=(pth a).length+r.length->(∀ v∈r,v < T.width)->Added T (zc6 m T a (pth a).length r).1 (pth a++r.take (T.depth - (pth a).length)) m (zc6 m T a (pth a).length r).2 (T.depth - 1 - (pth a).length)
 |[],T,pth,a,h,ha,hl,_=>by have:=h.lev a ha;simp at hl;omega
 |v::r,T,pth,a,h,ha,hl,hf=>by
  have hlev:=h.lev a ha
  have hv:v < T.width:=hf v (by simp)
  have hreach:=h.reach _ a ha rfl
  simp only[List.length_cons] at hl
  unfold zc6
  by_cases hd:(pth a).length+1 ≥ T.depth
  ·rw[if_pos hd]
   have hd1:T.depth - (pth a).length=1:=by omega
   rw[hd1]
   have hkey:zke T (pth a++(v::r).take 1)=zax T a v:=by
    unfold zke
    rw[zf3,hreach]
    simp only[List.take_succ_cons,List.take_zero,Option.bind_some,goT]
    cases zax T a v <;> rfl
   unfold zrb
   cases hx:zax T a v with
   |some b =>
    refine⟨⟨pth,h⟩,rfl,rfl,by rw[hkey,hx];rfl,fun _=>rfl,fun q=>by simp at q,fun q hq=>?_⟩
    by_cases e:q=pth a++(v::r).take 1
    ·subst e
     rw[if_pos rfl,hkey,hx];rfl
    ·rw[if_neg e]
   |none =>
    have hps:=zzd h.node (d:=m) ha hv hx
    have hgo:∀ q c,goT { ze8 T a v m with count:=(ze8 T a v m).count+1 } c q=goT (ze8 T a v m) c q:=by
     intro q
     induction q with
     |nil=>intro c;rfl
     |cons x q ih =>
      intro c
      simp only[goT]
      have:zax { ze8 T a v m with count:=(ze8 T a v m).count+1 } c x=zax (ze8 T a v m) c x:=rfl
      rw[this]
      cases zax (ze8 T a v m) c x with
      |none=>rfl
      |some b=>exact ih b
    refine⟨⟨pth,?_⟩,zi8 _ _ _ _,zh5 _ _ _ _,by rw[hkey,hx];rfl,fun q=>by simp at q,fun _=>⟨by simp[zww],by simp[zhy]⟩,fun q hq=>?_⟩
    ·have hdd:∀ b u,zax { ze8 T a v m with count:=(ze8 T a v m).count+1 } b u=if b=a/\u=v then some m else zax T b u:=hps.2
     refine⟨by show 1<=(ze8 T a v m).depth/\(ze8 T a v m).depth<=3;rw[zh5];exact h.dep,by show 1<=(ze8 T a v m).width;rw[zi8];exact h.wid,by show 0 < (ze8 T a v m).nodes.length;rw[zhy];exact h.pos,hps.1,h.root,fun c hc=>by show _ < (ze8 T a v m).depth;rw[zh5];exact h.lev c (by simpa [zhy] using hc),fun c d hc hdl e=>h.inj c d (by simpa [zhy] using hc) (by simpa [zhy] using hdl) e,fun c u b hcb hlc=>?_,fun b hb hb0=>?_⟩
     ·rw[hdd] at hcb
      have hlc':(pth c).length+1 < T.depth:=by simpa [zh5] using hlc
      by_cases e:c=a/\u=v
      ·obtain⟨rfl,rfl⟩:=e;omega
      ·rw[if_neg e] at hcb
       obtain⟨k1,k2⟩:=h.kid c u b hcb hlc'
       exact⟨by simpa [zhy] using k1,k2⟩
     ·obtain⟨c,u,q1,q2,q3⟩:=h.par b (by simpa [zhy] using hb) hb0
      refine⟨c,u,?_,by simpa [zh5] using q2,q3⟩
      rw[hdd,if_neg]
      ·exact q1
      ·rintro⟨rfl,rfl⟩;rw[hx] at q1;cases q1
    ·unfold zke
     rw[hgo,h.put_sem (by omega) ha hx hps.2 q 0 h.pos (by rw[h.root];simpa using hq),h.root]
     have htk:(v::r).take 1=[v]:=by simp
     rw[htk,List.nil_append]
     by_cases e:q=pth a++[v]
     ·rw[if_pos e,if_pos e]
      have:goT T 0 q=none:=by rw[e];have:=hkey;unfold zke at this;rw[htk] at this;rw[this,hx]
      rw[this];rfl
     ·rw[if_neg e,if_neg e]
  ·rw[if_neg hd]
   obtain⟨dd,hdd⟩:∃ dd,T.depth - (pth a).length=dd+1:=⟨T.depth - (pth a).length - 1,by omega⟩
   have hkk:∀ p:zas,p=pth a++[v]->p++r.take (T.depth - p.length)=pth a++(v::r).take (T.depth - (pth a).length):=by
    rintro p rfl
    rw[hdd,List.take_succ_cons]
    have:T.depth - (pth a++[v]).length=dd:=by simp;omega
    rw[this];simp
   unfold zcq
   cases hx:zax T a v with
   |some b =>
    obtain⟨k1,k2⟩:=h.kid a v b hx (by omega)
    have ih:=zjd m r T pth b h k1 (by rw[k2];simp;omega) (fun x hx=>hf x (by simp[hx]))
    rw[hkk _ k2] at ih
    have e:(pth b).length=(pth a).length+1:=by rw[k2];simp
    rw[e] at ih
    exact⟨ih.inv,ih.width,ih.depth,ih.is,ih.same,fun q=>⟨(ih.more q).1,by have:=(ih.more q).2;simp only at this ⊢;omega⟩,ih.sem⟩
   |none =>
    obtain⟨g1,g2,g3,g4,g5,g6⟩:=h.grow ha hv (by omega) hx
    have ih:=zjd m r (ze8 (zca T) a v T.nodes.length) _ T.nodes.length g1 (by rw[g3];omega) (by rw[if_pos rfl,g5];simp;omega) (fun x hx=>by rw[g4];exact hf x (by simp[hx]))
    rw[if_pos rfl,g5,hkk _ rfl] at ih
    have e:(pth a++[v]).length=(pth a).length+1:=by simp
    rw[e] at ih
    have hsem:∀ q:zas,q.length=T.depth->zke (ze8 (zca T) a v T.nodes.length) q=zke T q:=fun q hq=>h.grow_sem (by omega) hx g2 q 0 h.pos (by rw[h.root];simpa using hq)
    have hklen:(pth a++(v::r).take (T.depth - (pth a).length)).length=T.depth:=by simp;omega
    have hnone:zke T (pth a++(v::r).take (T.depth - (pth a).length))=none:=by
     unfold zke
     rw[zf3,hreach,hdd,List.take_succ_cons]
     simp[goT,hx]
    have his:=ih.is
    rw[hsem _ hklen,hnone] at his
    refine⟨ih.inv,by rw[ih.width,g4],by rw[ih.depth,g5],by rw[hnone];exact his,fun q=>?_,fun q=>⟨by rw[(ih.more q).1,g6],by have:=(ih.more q).2;rw[g3] at this;simp only at this ⊢;omega⟩,fun q hq=>?_⟩
    ·rw[his] at q;cases q
    ·rw[ih.sem q (by rw[g5];exact hq),hsem q hq]
end Go.Proofs.YteampbddflhngaaGreat

namespace Go.Proofs.YteampbddflhngaaGreat
theorem z6i{T:zae}{pth:Nat->zas}(h:ze2 T pth)(row:zas)(m:Nat)(hl:row.length=3)(hf:zpb T row=true):Added T (zft T row m).1 (row.take T.depth) m (zft T row m).2 (T.depth - 1):=by
 have:=zjd m row T pth 0 h h.pos (by rw[h.root];simp[hl];exact h.dep.2) (fun v hv=>by simp only[zpb,List.all_eq_true,decide_eq_true_eq] at hf;exact hf v hv)
 rw[h.root] at this
 unfold zft
 rw[if_pos hf]
 simpa using this
theorem zst(w d:Nat):(zf1 w d).width=za3 w:=rfl
theorem zgz(w d:Nat):(zf1 w d).depth=zby d:=rfl
theorem zej(d:Nat):1<=zby d/\zby d<=3:=by unfold zby;by_cases h1:d < 1 <;> by_cases h2:d > 3 <;> simp[h1,h2] <;> omega
theorem zwe(w d a v:Nat):zax (zf1 w d) a v=none:=by
 rw[zgw]
 refine if_neg fun q=>?_
 have h0:a=0:=by have:=q.1;simp[zf1,zca] at this;exact this
 subst h0
 exact(zhs.new (za3 w)).2 v q.2
theorem z88(w d:Nat):ze2 (zf1 w d) (fun _=>[]):=by
 refine⟨zej d,by show 1<=za3 w;unfold za3;split <;> omega,by simp[zf1,zca],?_,rfl,fun a _=>by show 0 < zby d;exact(zej d).1,fun a b ha hb _=>?_,(fun a v b hd=>by rw[zwe] at hd;exact absurd hd (by simp)),fun b hb hb0=>?_⟩
 ·intro a ha
  have h0:a=0:=by simp[zf1,zca] at ha;exact ha
  subst h0
  exact(zhs.new (za3 w)).1
 ·simp[zf1,zca] at ha hb;omega
 ·simp[zf1,zca] at hb;omega
theorem zn3(w d:Nat)(q:zas)(hq:q≠[]):zke (zf1 w d) q=none:=by
 cases q with
 |nil=>exact absurd rfl hq
 |cons v q=>simp[zke,goT,zwe]
theorem zo4(T:zae):∀(r:zas) (a level:Nat),level < T.depth->T.depth<=level+r.length->zbe T a level r=goT T a (r.take (T.depth - level))
 |[],a,level,h1,h2=>by simp at h2;omega
 |v::r,a,level,h1,h2=>by
  obtain⟨k,hk⟩:∃ k,T.depth - level=k+1:=⟨T.depth - level - 1,by omega⟩
  unfold zbe
  rw[hk,List.take_succ_cons]
  simp only[goT]
  cases hd:zax T a v with
  |none=>rfl
  |some b =>
   simp only
   by_cases e:level+1 ≥ T.depth
   ·rw[if_pos e]
    have:k=0:=by omega
    subst this
    simp[goT]
   ·rw[if_neg e,zo4 T r b (level+1) (by omega) (by simp at h2;omega)]
    have:T.depth - (level+1)=k:=by omega
    rw[this]
theorem z5w{T:zae}{pth:Nat->zas}(h:ze2 T pth)(row:zas)(hl:row.length=3):zdx T row=zke T (row.take T.depth):=by
 have:=zo4 T row 0 0 (by have:=h.dep.1;omega) (by rw[hl];have:=h.dep.2;omega)
 simpa [zdx,zke] using this
def zic(T:zae):Nat->Nat->Nat->List zas
 |0,_,_=>[[]]
 |d+1,a,f=>(List.range' f (T.width - f)).flatMap fun v=>match zax T a v with
  |none=>[]
  |some b=>(zic T d b 0).map (v::·)
theorem z0t{T:zae}{d a f:Nat}(h:∀ u,f<=u->zax T a u=none):zic T (d+1) a f=[]:=by
 simp only[zic,List.flatMap_eq_nil_iff,List.mem_range'_1]
 intro v hv
 rw[h v hv.1]
theorem z0o{T:zae}{d a v b:Nat}:∀(n f:Nat),v - f=n->f<=v->v < T.width->zax T a v=some b->(∀ u,f<=u->u < v->zax T a u=none)->zic T (d+1) a f=(zic T d b 0).map (v::·)++zic T (d+1) a (v+1):=by
 intro n
 induction n with
 |zero =>
  intro f hn hf hw hb _
  have:f=v:=by omega
  subst this
  obtain⟨k,hk⟩:∃ k,T.width - f=k+1:=⟨T.width - f - 1,by omega⟩
  have hk2:T.width - (f+1)=k:=by omega
  simp only[zic,hk,hk2,List.range'_succ,List.flatMap_cons,hb]
 |succ n ih =>
  intro f hn hf hw hb hu
  obtain⟨k,hk⟩:∃ k,T.width - f=k+1:=⟨T.width - f - 1,by omega⟩
  have hk2:T.width - (f+1)=k:=by omega
  rw[← ih (f+1) (by omega) (by omega) hw hb (fun u h1 h2=>hu u (by omega) h2)]
  simp only[zic,hk,hk2,List.range'_succ,List.flatMap_cons,hu f (Nat.le_refl _) (by omega),List.nil_append]
theorem zz4(row:zas)(l v:Nat)(k:zas)(hl:l < row.length):(row.set l v).take (l+1)++k=row.take l++v::k:=by
 have:(row.set l v).take (l+1)=row.take l++[v]:=by
  rw[List.take_succ_eq_append_getElem (by simpa using hl),List.take_set_of_le (Nat.le_refl _)]
  simp
 rw[this];simp
theorem zxs(row:zas)(l v j:Nat)(hl:l < j):(row.set l v).drop j=row.drop j:=by
 rw[List.drop_set,if_pos hl]
theorem z1j{T:zae}(hn:zhc T)(hd3:T.depth<=3):∀(n a level f:Nat) (row:zas) (rows:List zas),level < T.depth->row.length=3->f<=T.width->(T.width - f)+1+(T.depth - level - 1) * (T.width+1)<=n →
  ∃ row',zdg T n a level f row rows=some (row',rows++(zic T (T.depth - level) a f).map fun k=>row.take level++k++row.drop T.depth)/\row'.length=3/\row'.take level=row.take level/\row'.drop T.depth=row.drop T.depth:=by
 intro n
 induction n with
 |zero=>intro a level f row rows h1 h2 h3 h4;omega
 |succ n ih =>
  intro a level f row rows h1 h2 h3 h4
  obtain⟨d,hd⟩:∃ d,T.depth - level=d+1:=⟨T.depth - level - 1,by omega⟩
  unfold zdg
  cases hl:zco T a f with
  |none =>
   refine⟨row,?_,h2,rfl,rfl⟩
   rw[hd,z0t (zv0 hn hl)]
   simp
  |some v =>
   obtain⟨q1,q2,q3,q4⟩:=zwb hn hl
   obtain⟨b,hb⟩:=Option.isSome_iff_exists.1 q3
   have hkeys:=z0o (d:=d) _ f rfl q1 q2 hb q4
   simp only
   have hset2:(row.set level v).length=3:=by simpa using h2
   have hlr:level < row.length:=by omega
   have hdrop:(row.set level v).drop T.depth=row.drop T.depth:=zxs row level v T.depth h1
   have htake:(row.set level v).take level=row.take level:=by rw[List.take_set_of_le (Nat.le_refl _)]
   have hd1:T.depth - level - 1=d:=by omega
   by_cases e:level+1 ≥ T.depth
   ·rw[if_pos e]
    have hd0:d=0:=by omega
    subst hd0
    obtain⟨row',r1,r2,r3,r4⟩:=ih a level (v+1) (row.set level v) (rows++[row.set level v]) h1 hset2 (by omega) (by rw[hd1] at h4 ⊢;omega)
    refine⟨row',?_,r2,by rw[r3,htake],by rw[r4,hdrop]⟩
    rw[r1,hd,hkeys]
    simp only[zic,List.map_cons,List.map_nil,List.cons_append,List.nil_append,htake,hdrop,List.append_assoc,Option.some.injEq,Prod.mk.injEq,true_and]
    congr 2
    have:=zz4 row level v (row.drop T.depth) hlr
    have e2:T.depth=level+1:=by omega
    rw[← hdrop,e2] at this ⊢
    rw[List.take_append_drop] at this
    exact this
   ·rw[if_neg e,if_neg (by omega),hb]
    simp only[Option.getD_some]
    have hm:d * (T.width+1)=(d - 1) * (T.width+1)+(T.width+1):=by
     obtain⟨j,rfl⟩:∃ j,d=j+1:=⟨d - 1,by omega⟩
     simp[Nat.succ_mul]
    have hd2:T.depth - (level+1) - 1=d - 1:=by omega
    have hd3':T.depth - (level+1)=d:=by omega
    obtain⟨row1,r1,r2,r3,r4⟩:=ih b (level+1) 0 (row.set level v) rows (by omega) hset2 (by omega) (by rw[hd1] at h4;rw[hd2];omega)
    rw[r1]
    simp only
    obtain⟨row',s1,s2,s3,s4⟩:=ih a level (v+1) row1 (rows++(zic T (T.depth - (level+1)) b 0).map fun k=>(row.set level v).take (level+1)++k++(row.set level v).drop T.depth) h1 r2 (by omega) (by rw[hd1] at h4 ⊢;omega)
    have t1:row1.take level=row.take level:=by
     have:=congrArg (List.take level) r3
     rwa [List.take_take,List.take_take,Nat.min_eq_left (by omega),htake] at this
    refine⟨row',?_,s2,by rw[s3,t1],by rw[s4,r4,hdrop]⟩
    rw[s1,hd,hkeys,hd3',t1,r4,hdrop,List.map_append,List.map_map,← List.append_assoc]
    congr 3
    refine congrArg (rows++·) (List.map_congr_left fun k _=>?_)
    simp only[Function.comp]
    rw[zz4 row level v k hlr]
def pad(k:zas)(d:Nat):zas:=k++([0,0,0]:zas).drop d
theorem z1r{T:zae}{pth:Nat->zas}(h:ze2 T pth)(fuel:Nat)(hf:3 * (T.width+1)<=fuel):zs5 fuel T=some ((zic T T.depth 0 0).map fun k=>pad k T.depth):=by
 have hd:=h.dep
 have hm:T.width+1+(T.depth - 1) * (T.width+1)<=3 * (T.width+1):=by
  have:(T.depth - 1) * (T.width+1)<=2 * (T.width+1):=Nat.mul_le_mul_right _ (by omega)
  omega
 obtain⟨row',h1,_,_,_⟩:=z1j h.node hd.2 fuel 0 0 0 [0,0,0] [] (by omega) rfl (by omega) (by simp;omega)
 unfold zs5
 rw[h1]
 simp[pad]
theorem zpm(T:zae):∀(d a f:Nat) (k:zas),k∈zic T d a f↔k.length=d/\(goT T a k).isSome=true/\(0 < d->f<=k.headD 0)
 |0,a,f,k=>by
  simp only[zic,List.mem_singleton]
  constructor
  ·rintro rfl;simp[goT]
  ·rintro⟨h,_⟩;exact List.length_eq_zero_iff.1 h
 |d+1,a,f,k=>by
  simp only[zic,List.mem_flatMap,List.mem_range'_1]
  constructor
  ·rintro⟨v,hv,hk⟩
   cases hd:zax T a v with
   |none=>rw[hd] at hk;simp at hk
   |some b =>
    rw[hd] at hk
    simp only[List.mem_map] at hk
    obtain⟨k',hk',rfl⟩:=hk
    obtain⟨h1,h2,_⟩:=(zpm T d b 0 k').1 hk'
    refine⟨by simp[h1],?_,fun _=>by simpa using hv.1⟩
    simp only[goT,hd]
    exact h2
  ·rintro⟨h1,h2,h3⟩
   cases k with
   |nil=>simp at h1
   |cons v k =>
    simp only[goT] at h2
    simp only[List.headD_cons] at h3
    cases hd:zax T a v with
    |none=>rw[hd] at h2;simp at h2
    |some b =>
     rw[hd] at h2
     have hw:=(zhd hd).2
     have:=h3 (by omega)
     refine⟨v,by omega,?_⟩
     rw[hd]
     simp only[List.mem_map]
     exact⟨k,(zpm T d b 0 k).2 ⟨by simpa using h1,h2,fun _=>Nat.zero_le _⟩,rfl⟩
end Go.Proofs.YteampbddflhngaaGreat
