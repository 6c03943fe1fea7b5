import Derived.Test.YteampbddflhngabGreatJ17

namespace Go.Proofs.YteampbddflhngabGreat
structure zgy (w:Nat) (n:zha):Prop where
 len:n.leap.length=w
 dlen:n.down.length=w
 ge:∀ i,i < w->i<=n.leap.getD i 0
 le:∀ i,i < w->n.leap.getD i 0<=w
 fix:∀ i,i < w->n.leap.getD i 0 < w->n.leap.getD (n.leap.getD i 0) 0=n.leap.getD i 0
 seg:∀ i j,i < w->i<=j->j < n.leap.getD i 0->n.leap.getD j 0=n.leap.getD i 0
theorem zal(l:List Nat)(i j v d:Nat):(l.set i v).getD j d=if i=j/\i < l.length then v else l.getD j d:=by
 simp only[List.getD_eq_getElem?_getD,List.getElem?_set]
 by_cases h:i=j
 ·subst h
  by_cases h2:i < l.length
  ·simp[h2]
  ·simp[h2]
 ·simp[h]
theorem znl(v:Nat):∀(n:Nat) (l:List Nat),(zga v n l).length=l.length
 |0,l=>rfl
 |n+1,l=>by
  unfold zga
  split
  ·rw[znl];simp
  ·rfl
open Classical in
theorem zs4(v:Nat):∀(n:Nat) (l:List Nat) (u:Nat),n<=l.length->(zga v n l).getD u 0=if u < n/\∀ j,u<=j->j < n->l.getD j 0 > v then v else l.getD u 0
 |0,l,u,_=>by simp[zga]
 |n+1,l,u,h=>by
  unfold zga
  by_cases hg:l.getD n 0 > v
  ·rw[if_pos hg,zs4 v n (l.set n v) u (by simp;omega)]
   by_cases hu:u < n
   ·by_cases ha:∀ j,u<=j->j < n->l.getD j 0 > v
    ·rw[if_pos ⟨hu,fun j h1 h2=>by rw[zal,if_neg (by omega)];exact ha j h1 h2⟩,if_pos ⟨by omega,fun j h1 h2=>by
      by_cases hj:j=n
      ·subst hj;exact hg
      ·exact ha j h1 (by omega)⟩]
    ·rw[if_neg (fun q=>ha fun j h1 h2=>by have:=q.2 j h1 h2;rwa [zal,if_neg (by omega)] at this),if_neg (fun q=>ha fun j h1 h2=>q.2 j h1 (by omega)),zal,if_neg (by omega)]
   ·rw[if_neg (fun q=>hu q.1),zal]
    by_cases hn:n=u
    ·subst hn
     rw[if_pos ⟨rfl,by omega⟩,if_pos ⟨by omega,fun j h1 h2=>by
      have:j=n:=by omega
      subst this;exact hg⟩]
    ·rw[if_neg (by omega),if_neg (by omega)]
  ·rw[if_neg hg]
   by_cases hu:u < n+1
   ·rw[if_neg (fun q=>hg (q.2 n (by omega) (by omega)))]
   ·rw[if_neg (fun q=>hu q.1)]
def z3v(w:Nat)(n:zha)(v:Nat):Prop:=v < w/\n.leap.getD v 0=v
theorem zgy.none{w:Nat}{n:zha}(h:zgy w n){i:Nat}(hi:i < w)(hw:¬ n.leap.getD i 0 < w):∀ u,i<=u->¬ z3v w n u:=by
 intro u hu ⟨h1,h2⟩
 have:=h.seg i u hi hu (by omega)
 omega
theorem zgy.some{w:Nat}{n:zha}(h:zgy w n){i:Nat}(hi:i < w)(hw:n.leap.getD i 0 < w):i<=n.leap.getD i 0/\z3v w n (n.leap.getD i 0)/\∀ u,i<=u->u < n.leap.getD i 0->¬ z3v w n u:=by
 refine⟨h.ge i hi,⟨hw,h.fix i hi hw⟩,fun u h1 h2 ⟨h3,h4⟩=>?_⟩
 have:=h.seg i u hi h1 h2
 omega
theorem zgy.put{w:Nat}{n:zha}(h:zgy w n){v d:Nat}(hv:v < w)(hn:¬ z3v w n v):zgy w (z2x n v d)/\(∀ u,z3v w (z2x n v d) u↔u=v∨z3v w n u)/\∀ u,(z2x n v d).down.getD u 0=if u=v then d else n.down.getD u 0:=by
 have hl:=h.len
 have hgt:n.leap.getD v 0 > v:=by
  have h1:=h.ge v hv
  rcases Nat.lt_or_eq_of_le h1 with q|q
  ·exact q
  ·exact absurd ⟨hv,q.symm⟩ hn
 have hat:∀ u,(zga v (v+1) n.leap).getD u 0=if u<=v/\n.leap.getD u 0 > v then v else n.leap.getD u 0:=by
  intro u
  rw[zs4 v (v+1) n.leap u (by omega)]
  by_cases hu:u<=v
  ·by_cases hq:n.leap.getD u 0 > v
   ·have key:∀ j,u<=j->j < v+1->n.leap.getD j 0 > v:=fun j h1 h2=>by
     have:=h.seg u j (by omega) h1 (by omega)
     omega
    rw[if_pos ⟨by omega,key⟩,if_pos ⟨hu,hq⟩]
   ·rw[if_neg (fun q=>hq (q.2 u (Nat.le_refl _) (by omega))),if_neg (fun q=>hq q.2)]
  ·rw[if_neg (fun q=>by omega),if_neg (fun q=>by omega)]
 have hp:∀ u,(z2x n v d).leap.getD u 0=if u<=v/\n.leap.getD u 0 > v then v else n.leap.getD u 0:=hat
 have hself:(z2x n v d).leap.getD v 0=v:=by rw[hp,if_pos ⟨Nat.le_refl _,hgt⟩]
 refine⟨⟨by simp[z2x,znl,hl],by simp[z2x,h.dlen],fun i hi=>?_,fun i hi=>?_,fun i hi hq=>?_,fun i j hi hij hj=>?_⟩,fun u=>?_,fun u=>?_⟩
 ·rw[hp];split
  ·omega
  ·exact h.ge i hi
 ·rw[hp];split
  ·omega
  ·exact h.le i hi
 ·by_cases hc:i<=v/\n.leap.getD i 0 > v
  ·rw[hp i,if_pos hc];exact hself
  ·rw[hp i,if_neg hc] at hq ⊢
   have h2:=h.fix i hi hq
   rw[hp]
   by_cases hc2:n.leap.getD i 0<=v/\n.leap.getD (n.leap.getD i 0) 0 > v
   ·omega
   ·rw[if_neg hc2];exact h2
 ·by_cases hc:i<=v/\n.leap.getD i 0 > v
  ·rw[hp i,if_pos hc] at hj ⊢
   have:=h.seg i j hi hij (by omega)
   rw[hp,if_pos ⟨by omega,by omega⟩]
  ·rw[hp i,if_neg hc] at hj ⊢
   have:=h.seg i j hi hij hj
   rw[hp,this]
   have:=h.ge i hi
   rw[if_neg (by omega)]
 ·unfold z3v
  rw[hp]
  by_cases hc:u<=v/\n.leap.getD u 0 > v
  ·rw[if_pos hc]
   constructor
   ·rintro⟨_,q⟩;exact Or.inl q.symm
   ·rintro(q|q)
    ·subst q;exact⟨hv,rfl⟩
    ·omega
  ·rw[if_neg hc]
   constructor
   ·intro q;exact Or.inr q
   ·rintro(q|q)
    ·subst q;exact absurd ⟨Nat.le_refl _,hgt⟩ hc
    ·exact q
 ·show(n.down.set v d).getD u 0=_
  rw[zal]
  by_cases hu:u=v
  ·subst hu;rw[if_pos ⟨rfl,by rw[h.dlen];exact hv⟩,if_pos rfl]
  ·rw[if_neg (by omega),if_neg hu]
theorem zi0(k d i:Nat)(hi:i < k)(x:Nat):(List.replicate k x).getD i d=x:=by simp[List.getD_eq_getElem?_getD,hi]
theorem zgy.new(w:Nat):zgy w ⟨List.replicate w w,List.replicate w 0⟩/\∀ v,¬ z3v w ⟨List.replicate w w,List.replicate w 0⟩ v:=by
 refine⟨⟨by simp,by simp,fun i hi=>?_,fun i hi=>?_,fun i hi hq=>?_,fun i j hi hij hj=>?_⟩,fun v ⟨h1,h2⟩=>?_⟩ <;> simp only at *
 ·rw[zi0 _ _ _ hi];omega
 ·rw[zi0 _ _ _ hi];exact Nat.le_refl _
 ·rw[zi0 _ _ _ hi] at hq;omega
 ·rw[zi0 _ _ _ hi] at hj ⊢;rw[zi0 _ _ _ hj]
 ·rw[zi0 _ _ _ h1] at h2;omega
def zin(T:zad)(a:Nat):zha:=T.nodes.getD a zha.zero
def zgl(T:zad):Prop:=∀ a,a < T.nodes.length->zgy T.width (zin T a)
theorem zgg(T:zad)(a v:Nat):zaw T a v=if a < T.nodes.length/\v < T.width/\(zin T a).leap.getD v 0=v then some ((zin T a).down.getD v 0) else none:=by
 unfold zaw zcj zin
 by_cases h1:a < T.nodes.length/\v < T.width
 ·rw[if_pos h1]
  dsimp only
  generalize (T.nodes.getD a zha.zero).leap.getD v 0=x
  by_cases h2:x=v
  ·subst h2
   rw[if_neg (by omega:¬ x ≥ T.width)]
   simp[h1]
  ·by_cases h3:x ≥ T.width
   ·simp[h3,h2]
   ·simp[h3,h2]
 ·rw[if_neg h1,if_neg (fun q=>h1 ⟨q.1,q.2.1⟩)]
theorem zgp{T:zad}{a v b:Nat}(h:zaw T a v=some b):a < T.nodes.length/\v < T.width:=by
 unfold zaw zcj at h
 by_cases h1:a < T.nodes.length/\v < T.width
 ·exact h1
 ·rw[if_neg h1] at h;cases h
theorem zsv{T:zad}(h:zgl T){a f v:Nat}(hl:zcj T a f=some v):f<=v/\v < T.width/\(zaw T a v).isSome=true/\∀ u,f<=u->u < v->zaw T a u=none:=by
 unfold zcj at hl
 split at hl
 ·rename_i h1
  simp only at hl
  split at hl
  ·cases hl
  ·rename_i h2
   simp only[Option.some.injEq] at hl
   have hn:=(h a h1.1).some h1.2 (by unfold zin;omega)
   unfold zin at hn
   rw[hl] at hn h2
   refine⟨hn.1,by omega,?_,fun u h3 h4=>?_⟩
   ·rw[zgg,if_pos ⟨h1.1,by omega,hn.2.1.2⟩];rfl
   ·rw[zgg,if_neg (fun q=>hn.2.2 u h3 h4 ⟨q.2.1,q.2.2⟩)]
 ·cases hl
theorem zsu{T:zad}(h:zgl T){a f:Nat}(hl:zcj T a f=none):∀ u,f<=u->zaw T a u=none:=by
 intro u hu
 rw[zgg]
 refine if_neg fun q=>?_
 unfold zcj at hl
 rw[if_pos ⟨q.1,by omega⟩] at hl
 simp only at hl
 split at hl
 ·rename_i h2
  exact(h a q.1).none (show f < T.width by omega) (by unfold zin;omega) u hu ⟨q.2.1,q.2.2⟩
 ·cases hl
def goT(T:zad):Nat->zaq->Option Nat
 |a,[]=>some a
 |a,v::r=>match zaw T a v with
  |none=>none
  |some b=>goT T b r
theorem zfn(T:zad):∀(p q:zaq) (a:Nat),goT T a (p++q)=(goT T a p).bind fun b=>goT T b q
 |[],q,a=>rfl
 |v::p,q,a=>by
  simp only[List.cons_append,goT]
  cases zaw T a v with
  |none=>rfl
  |some b=>exact zfn T p q b
structure zen (T:zad) (pth:Nat->zaq):Prop where
 dep:1<=T.depth/\T.depth<=3
 wid:1<=T.width
 pos:0 < T.nodes.length
 node:zgl T
 root:pth 0=[]
 lev:∀ a,a < T.nodes.length->(pth a).length < T.depth
 inj:∀ a b,a < T.nodes.length->b < T.nodes.length->pth a=pth b->a=b
 kid:∀ a v b,zaw T a v=some b->(pth a).length+1 < T.depth->b < T.nodes.length/\pth b=pth a++[v]
 par:∀ b,b < T.nodes.length->b≠0->∃ a v,zaw T a v=some b/\(pth a).length+1 < T.depth/\pth b=pth a++[v]
theorem z0o(l:List zha)(i j:Nat)(v d:zha):(l.set i v).getD j d=if i=j/\i < l.length then v else l.getD j d:=by
 simp only[List.getD_eq_getElem?_getD,List.getElem?_set]
 by_cases h:i=j
 ·subst h
  by_cases h2:i < l.length
  ·simp[h2]
  ·simp[h2]
 ·simp[h]
theorem zwx(T:zad)(a v d b:Nat)(ha:a < T.nodes.length)(hv:v < T.width):zin (zey T a v d) b=if b=a then z2x (zin T a) v d else zin T b:=by
 unfold zey zin
 rw[if_pos ⟨ha,hv⟩]
 simp only
 rw[z0o]
 by_cases h:b=a
 ·subst h;rw[if_pos ⟨rfl,ha⟩,if_pos rfl]
 ·rw[if_neg (fun q=>h q.1.symm),if_neg h]
theorem zhd(T:zad)(a v d:Nat):(zey T a v d).nodes.length=T.nodes.length:=by unfold zey;split <;> simp
theorem ziw(T:zad)(a v d:Nat):(zey T a v d).width=T.width:=by unfold zey;split <;> rfl
theorem zho(T:zad)(a v d:Nat):(zey T a v d).depth=T.depth:=by unfold zey;split <;> rfl
theorem ztk(T:zad)(a v d:Nat):(zey T a v d).count=T.count:=by unfold zey;split <;> rfl
theorem zw2{T:zad}(h:zgl T){a v d:Nat}(ha:a < T.nodes.length)(hv:v < T.width)(hn:zaw T a v=none):zgl (zey T a v d)/\∀ b u,zaw (zey T a v d) b u=if b=a/\u=v then some d else zaw T b u:=by
 have hnh:¬ z3v T.width (zin T a) v:=fun q=>by rw[zgg,if_pos ⟨ha,hv,q.2⟩] at hn;cases hn
 obtain⟨p1,p2,p3⟩:=(h a ha).put (d:=d) hv hnh
 have hok:zgl (zey T a v d):=by
  intro b hb
  rw[zhd] at hb
  rw[ziw,zwx T a v d b ha hv]
  split
  ·exact p1
  ·exact h b hb
 refine⟨hok,fun b u=>?_⟩
 rw[zgg,zhd,ziw,zwx T a v d b ha hv,zgg]
 by_cases hb:b=a
 ·subst hb
  rw[if_pos rfl,p3]
  by_cases hu:u=v
  ·subst hu
   rw[if_pos rfl,if_pos ⟨ha,hv,((p2 u).2 (Or.inl rfl)).2⟩,if_pos ⟨rfl,rfl⟩]
  ·rw[if_neg hu,if_neg (fun q:b=b/\u=v=>hu q.2)]
   by_cases hq:b < T.nodes.length/\u < T.width/\(zin T b).leap.getD u 0=u
   ·rw[if_pos hq,if_pos ⟨hq.1,hq.2.1,((p2 u).2 (Or.inr hq.2)).2⟩]
   ·rw[if_neg hq]
    refine if_neg fun q=>hq ⟨q.1,?_⟩
    rcases(p2 u).1 q.2 with r|r
    ·exact absurd r hu
    ·exact r
 ·rw[if_neg hb,if_neg (fun q:b=a/\u=v=>hb q.1)]
theorem z0p{T:zad}(h:zgl T):zgl (zb3 T)/\∀ b u,zaw (zb3 T) b u=zaw T b u:=by
 have hnd:∀ b,zin (zb3 T) b=if b < T.nodes.length then zin T b else if b=T.nodes.length then⟨List.replicate T.width T.width,List.replicate T.width 0⟩ else zha.zero:=by
  intro b
  unfold zin zb3
  simp only[List.getD_eq_getElem?_getD,List.getElem?_append]
  by_cases h1:b < T.nodes.length
  ·simp[h1]
  ·rw[if_neg h1,if_neg h1]
   by_cases h2:b=T.nodes.length
   ·subst h2;simp
   ·rw[if_neg h2]
    rw[List.getElem?_eq_none (by simp;omega)];rfl
 have hln:(zb3 T).nodes.length=T.nodes.length+1:=by simp[zb3]
 have hok:zgl (zb3 T):=by
  intro b hb
  rw[hln] at hb
  rw[hnd]
  by_cases h1:b < T.nodes.length
  ·rw[if_pos h1];exact h b h1
  ·rw[if_neg h1,if_pos (by omega)];exact(zgy.new T.width).1
 refine⟨hok,fun b u=>?_⟩
 rw[zgg,zgg,hnd,hln,show(zb3 T).width=T.width from rfl]
 by_cases h1:b < T.nodes.length
 ·rw[if_pos h1]
  by_cases hq:u < T.width/\(zin T b).leap.getD u 0=u
  ·rw[if_pos ⟨by omega,hq⟩,if_pos ⟨h1,hq⟩]
  ·rw[if_neg (fun q=>hq q.2),if_neg (fun q=>hq q.2)]
 ·rw[if_neg h1,if_neg (fun q:b < T.nodes.length/\_=>h1 q.1)]
  by_cases h2:b=T.nodes.length
  ·rw[if_pos h2]
   exact if_neg fun q=>(zgy.new T.width).2 u q.2
  ·exact if_neg fun q=>by omega
def zjg(T:zad)(q:zaq):Option Nat:=goT T 0 q
structure Added (T T':zad) (key:zaq) (m:Nat) (new:Bool) (room:Nat):Prop where
 inv:∃ pth',zen T' pth'
 width:T'.width=T.width
 depth:T'.depth=T.depth
 is:new=(zjg T key).isNone
 same:new=false->T'=T
 more:new=true->T'.count=T.count+1/\T'.nodes.length<=T.nodes.length+room
 sem:∀ q,q.length=T.depth->zjg T' q=if q=key then some ((zjg T q).getD m) else zjg T q
theorem zen.grow{T:zad}{pth:Nat->zaq}(h:zen T pth){a v:Nat}(ha:a < T.nodes.length)(hv:v < T.width)(hl:(pth a).length+1 < T.depth)(hn:zaw T a v=none) :
  zen (zey (zb3 T) a v T.nodes.length) (fun c=>if c=T.nodes.length then pth a++[v] else pth c)/\(∀ b u,zaw (zey (zb3 T) a v T.nodes.length) b u=if b=a/\u=v then some T.nodes.length else zaw T b u)/\(zey (zb3 T) a v T.nodes.length).nodes.length=T.nodes.length+1/\(zey (zb3 T) a v T.nodes.length).width=T.width/\(zey (zb3 T) a v T.nodes.length).depth=T.depth/\(zey (zb3 T) a v T.nodes.length).count=T.count:=by
 have hg:=z0p h.node
 have hln:(zb3 T).nodes.length=T.nodes.length+1:=by simp[zb3]
 obtain⟨s1,s2⟩:=zw2 hg.1 (a:=a) (v:=v) (d:=T.nodes.length) (by rw[hln];omega) (show v < (zb3 T).width from hv) (by rw[hg.2];exact hn)
 have hd:∀ b u,zaw (zey (zb3 T) a v T.nodes.length) b u=if b=a/\u=v then some T.nodes.length else zaw T b u:=fun b u=>by rw[s2,hg.2]
 have hl1:(zey (zb3 T) a v T.nodes.length).nodes.length=T.nodes.length+1:=by rw[zhd,hln]
 have hw1:(zey (zb3 T) a v T.nodes.length).width=T.width:=by rw[ziw];rfl
 have hd1:(zey (zb3 T) a v T.nodes.length).depth=T.depth:=by rw[zho];rfl
 have hc1:(zey (zb3 T) a v T.nodes.length).count=T.count:=by rw[ztk];rfl
 have hp:=h.pos
 have hfresh:∀ c,c < T.nodes.length->pth c≠pth a++[v]:=by
  intro c hc e
  have hc0:c≠0:=by rintro rfl;rw[h.root] at e;exact absurd e.symm (by simp)
  obtain⟨a',v',q1,q2,q3⟩:=h.par c hc hc0
  rw[e] at q3
  have e1:=List.append_inj' q3 rfl
  have e2:=h.inj a a' ha (zgp q1).1 e1.1
  subst e2
  simp only[List.cons.injEq,and_true] at e1
  rw[← e1.2] at q1
  rw[q1] at hn;cases hn
 refine⟨⟨by rw[hd1];exact h.dep,by rw[hw1];exact h.wid,by rw[hl1];omega,s1,?_,fun c hc=>?_,fun c d hc hdd e=>?_,fun c u b hcb hlc=>?_,fun b hb hb0=>?_⟩,hd,hl1,hw1,hd1,hc1⟩
 ·rw[if_neg (by omega)];exact h.root
 ·rw[hl1] at hc
  rw[hd1]
  by_cases e:c=T.nodes.length
  ·rw[if_pos e];simp;omega
  ·rw[if_neg e];exact h.lev c (by omega)
 ·rw[hl1] at hc hdd
  by_cases e1:c=T.nodes.length
  ·by_cases e2:d=T.nodes.length
   ·rw[e1,e2]
   ·rw[if_pos e1,if_neg e2] at e
    exact absurd e.symm (hfresh d (by omega))
  ·by_cases e2:d=T.nodes.length
   ·rw[if_neg e1,if_pos e2] at e
    exact absurd e (hfresh c (by omega))
   ·rw[if_neg e1,if_neg e2] at e
    exact h.inj c d (by omega) (by omega) e
 ·rw[hd] at hcb
  rw[hd1] at hlc
  rw[hl1]
  by_cases e:c=a/\u=v
  ·rw[if_pos e] at hcb
   simp only[Option.some.injEq] at hcb
   obtain⟨rfl,rfl⟩:=e
   subst hcb
   rw[if_pos rfl,if_neg (by omega)]
   exact⟨by omega,rfl⟩
  ·rw[if_neg e] at hcb
   have hcl:=(zgp hcb).1
   rw[if_neg (by omega)] at hlc
   obtain⟨k1,k2⟩:=h.kid c u b hcb hlc
   rw[if_neg (by omega),if_neg (by omega)]
   exact⟨by omega,k2⟩
 ·rw[hl1] at hb
  by_cases e:b=T.nodes.length
  ·refine⟨a,v,by rw[hd,if_pos ⟨rfl,rfl⟩,e],by rw[if_neg (by omega),hd1];exact hl,by rw[if_pos e,if_neg (by omega)]⟩
  ·obtain⟨c,u,q1,q2,q3⟩:=h.par b (by omega) hb0
   have hcl:=(zgp q1).1
   refine⟨c,u,?_,by rw[if_neg (by omega),hd1];exact q2,by rw[if_neg e,if_neg (by omega)];exact q3⟩
   rw[hd,if_neg]
   ·exact q1
   ·rintro⟨rfl,rfl⟩;rw[hn] at q1;cases q1
theorem zen.grow_sem{T T1:zad}{pth:Nat->zaq}(h:zen T pth){a v:Nat}(hl:(pth a).length+1 < T.depth)(hn:zaw T a v=none)(hd:∀ b u,zaw T1 b u=if b=a/\u=v then some T.nodes.length else zaw T b u):∀(q:zaq) (c:Nat),c < T.nodes.length->(pth c).length+q.length=T.depth->goT T1 c q=goT T c q
 |[],c,_,_=>rfl
 |u::q,c,hc,he=>by
  simp only[goT,hd]
  simp only[List.length_cons] at he
  by_cases e:c=a/\u=v
  ·obtain⟨rfl,rfl⟩:=e
   rw[if_pos ⟨rfl,rfl⟩,hn]
   simp only
   cases q with
   |nil=>simp at he;omega
   |cons x q =>
    simp only[goT,hd]
    by_cases hca:c=T.nodes.length
    ·omega
    ·rw[if_neg (fun q=>hca q.1.symm)]
     cases hx:zaw T T.nodes.length x with
     |none=>rfl
     |some y=>have:=(zgp hx).1;omega
  ·rw[if_neg e]
   cases hx:zaw T c u with
   |none=>rfl
   |some b =>
    simp only
    by_cases hq:(pth c).length+1 < T.depth
    ·obtain⟨k1,k2⟩:=h.kid c u b hx hq
     exact h.grow_sem hl hn hd q b k1 (by rw[k2];simp;omega)
    ·cases q with
     |nil=>rfl
     |cons x q=>simp at he;omega
theorem zen.put_sem{T T1:zad}{pth:Nat->zaq}(h:zen T pth){a v m:Nat}(hl:(pth a).length+1=T.depth)(ha:a < T.nodes.length)(hn:zaw T a v=none)(hd:∀ b u,zaw T1 b u=if b=a/\u=v then some m else zaw T b u):∀(q:zaq) (c:Nat),c < T.nodes.length->(pth c).length+q.length=T.depth->goT T1 c q=if pth c++q=pth a++[v] then some m else goT T c q
 |[],c,hc,he=>by have:=h.lev c hc;simp at he;omega
 |u::q,c,hc,he=>by
  simp only[goT,hd]
  simp only[List.length_cons] at he
  by_cases hq:(pth c).length+1 < T.depth
  ·have hca:c≠a:=by rintro rfl;omega
   rw[if_neg (fun q=>hca q.1)]
   cases hx:zaw T c u with
   |none =>
    simp only
    rw[if_neg]
    intro e
    have key:∀(k:Nat) (q:zaq) (b:Nat),q.length=k->b < T.nodes.length->pth c++u::q=pth b->False:=by
     intro k
     induction k with
     |zero =>
      intro q b hk hb e
      have:q=[]:=List.length_eq_zero_iff.1 hk
      subst this
      have hb0:b≠0:=by rintro rfl;rw[h.root] at e;simp at e
      obtain⟨x,y,q1,q2,q3⟩:=h.par b hb hb0
      rw[← e] at q3
      have e1:=List.append_inj' q3 rfl
      have:=h.inj c x hc (zgp q1).1 e1.1
      subst this
      simp only[List.cons.injEq,and_true] at e1
      rw[← e1.2,hx] at q1
      cases q1
     |succ k ih =>
      intro q b hk hb e
      have hb0:b≠0:=by rintro rfl;rw[h.root] at e;simp at e
      obtain⟨x,y,q1,q2,q3⟩:=h.par b hb hb0
      have hqn:q≠[]:=by rintro rfl;simp at hk
      have hsp:q=q.dropLast++[q.getLast hqn]:=(List.dropLast_concat_getLast hqn).symm
      rw[← e,hsp] at q3
      have e3:(pth c++u::q.dropLast)++[q.getLast hqn]=pth x++[y]:=by rw[← q3];simp
      have e1:=List.append_inj' e3 rfl
      exact ih q.dropLast x (by simp[hk]) (zgp q1).1 e1.1
    have hqn:q≠[]:=by rintro rfl;simp at he;omega
    have hsp:q=q.dropLast++[q.getLast hqn]:=(List.dropLast_concat_getLast hqn).symm
    rw[hsp] at e
    have e3:(pth c++u::q.dropLast)++[q.getLast hqn]=pth a++[v]:=by rw[← e];simp
    have e1:=List.append_inj' e3 rfl
    exact key _ q.dropLast a rfl ha e1.1
   |some b =>
    simp only
    obtain⟨k1,k2⟩:=h.kid c u b hx hq
    rw[h.put_sem hl ha hn hd q b k1 (by rw[k2];simp;omega),k2]
    simp
  ·have hq0:q=[]:=List.length_eq_zero_iff.1 (by have:=h.lev c hc;omega)
   subst hq0
   by_cases e:c=a/\u=v
   ·obtain⟨rfl,rfl⟩:=e
    simp[goT]
   ·rw[if_neg e]
    have hne:¬ pth c++[u]=pth a++[v]:=by
     intro e2
     have e1:=List.append_inj' e2 rfl
     exact e ⟨h.inj c a hc ha e1.1,by simpa using e1.2⟩
    rw[if_neg hne]
    cases zaw T c u <;> rfl
theorem zen.reach{T:zad}{pth:Nat->zaq}(h:zen T pth):∀(k:Nat) (b:Nat),b < T.nodes.length->(pth b).length=k->goT T 0 (pth b)=some b:=by
 intro k
 induction k with
 |zero =>
  intro b hb hk
  have e:pth b=pth 0:=by rw[h.root];exact List.length_eq_zero_iff.1 hk
  have:=h.inj b 0 hb h.pos e
  subst this
  rw[h.root];rfl
 |succ k ih =>
  intro b hb hk
  have hb0:b≠0:=by rintro rfl;rw[h.root] at hk;simp at hk
  obtain⟨x,y,q1,q2,q3⟩:=h.par b hb hb0
  have hx:=ih x (zgp q1).1 (by rw[q3] at hk;simpa using hk)
  rw[q3,zfn,hx]
  simp[goT,q1]
theorem zie(m:Nat):∀(r:zaq) (T:zad) (pth:Nat->zaq) (a:Nat),zen T pth->a < T.nodes.length->T.depth<=(pth a).length+r.length->(∀ v∈r,v < T.width)->Added T (zc0 m T a (pth a).length r).1 (pth a++r.take (T.depth - (pth a).length)) m (zc0 m T a (pth a).length r).2 (T.depth - 1 - (pth a).length)
 |[],T,pth,a,h,ha,hl,_=>by have:=h.lev a ha;simp at hl;omega
 |v::r,T,pth,a,h,ha,hl,hf=>by
  have hlev:=h.lev a ha
  have hv:v < T.width:=hf v (by simp)
  have hreach:=h.reach _ a ha rfl
  simp only[List.length_cons] at hl
  unfold zc0
  by_cases hd:(pth a).length+1 ≥ T.depth
  ·rw[if_pos hd]
   have hd1:T.depth - (pth a).length=1:=by omega
   rw[hd1]
   have hkey:zjg T (pth a++(v::r).take 1)=zaw T a v:=by
    unfold zjg
    rw[zfn,hreach]
    simp only[List.take_succ_cons,List.take_zero,Option.bind_some,goT]
    cases zaw T a v <;> rfl
   unfold zo5
   cases hx:zaw T a v with
   |some b =>
    refine⟨⟨pth,h⟩,rfl,rfl,by rw[hkey,hx];rfl,fun _=>rfl,fun q=>by simp at q,fun q hq=>?_⟩
    by_cases e:q=pth a++(v::r).take 1
    ·subst e
     rw[if_pos rfl,hkey,hx];rfl
    ·rw[if_neg e]
   |none =>
    have hps:=zw2 h.node (d:=m) ha hv hx
    have hgo:∀ q c,goT { zey T a v m with count:=(zey T a v m).count+1 } c q=goT (zey T a v m) c q:=by
     intro q
     induction q with
     |nil=>intro c;rfl
     |cons x q ih =>
      intro c
      simp only[goT]
      have:zaw { zey T a v m with count:=(zey T a v m).count+1 } c x=zaw (zey T a v m) c x:=rfl
      rw[this]
      cases zaw (zey T a v m) c x with
      |none=>rfl
      |some b=>exact ih b
    refine⟨⟨pth,?_⟩,ziw _ _ _ _,zho _ _ _ _,by rw[hkey,hx];rfl,fun q=>by simp at q,fun _=>⟨by simp[ztk],by simp[zhd]⟩,fun q hq=>?_⟩
    ·have hdd:∀ b u,zaw { zey T a v m with count:=(zey T a v m).count+1 } b u=if b=a/\u=v then some m else zaw T b u:=hps.2
     refine⟨by show 1<=(zey T a v m).depth/\(zey T a v m).depth<=3;rw[zho];exact h.dep,by show 1<=(zey T a v m).width;rw[ziw];exact h.wid,by show 0 < (zey T a v m).nodes.length;rw[zhd];exact h.pos,hps.1,h.root,fun c hc=>by show _ < (zey T a v m).depth;rw[zho];exact h.lev c (by simpa [zhd] using hc),fun c d hc hdl e=>h.inj c d (by simpa [zhd] using hc) (by simpa [zhd] using hdl) e,fun c u b hcb hlc=>?_,fun b hb hb0=>?_⟩
     ·rw[hdd] at hcb
      have hlc':(pth c).length+1 < T.depth:=by simpa [zho] using hlc
      by_cases e:c=a/\u=v
      ·obtain⟨rfl,rfl⟩:=e;omega
      ·rw[if_neg e] at hcb
       obtain⟨k1,k2⟩:=h.kid c u b hcb hlc'
       exact⟨by simpa [zhd] using k1,k2⟩
     ·obtain⟨c,u,q1,q2,q3⟩:=h.par b (by simpa [zhd] using hb) hb0
      refine⟨c,u,?_,by simpa [zho] using q2,q3⟩
      rw[hdd,if_neg]
      ·exact q1
      ·rintro⟨rfl,rfl⟩;rw[hx] at q1;cases q1
    ·unfold zjg
     rw[hgo,h.put_sem (by omega) ha hx hps.2 q 0 h.pos (by rw[h.root];simpa using hq),h.root]
     have htk:(v::r).take 1=[v]:=by simp
     rw[htk,List.nil_append]
     by_cases e:q=pth a++[v]
     ·rw[if_pos e,if_pos e]
      have:goT T 0 q=none:=by rw[e];have:=hkey;unfold zjg at this;rw[htk] at this;rw[this,hx]
      rw[this];rfl
     ·rw[if_neg e,if_neg e]
  ·rw[if_neg hd]
   obtain⟨dd,hdd⟩:∃ dd,T.depth - (pth a).length=dd+1:=⟨T.depth - (pth a).length - 1,by omega⟩
   have hkk:∀ p:zaq,p=pth a++[v]->p++r.take (T.depth - p.length)=pth a++(v::r).take (T.depth - (pth a).length):=by
    rintro p rfl
    rw[hdd,List.take_succ_cons]
    have:T.depth - (pth a++[v]).length=dd:=by simp;omega
    rw[this];simp
   unfold zcm
   cases hx:zaw T a v with
   |some b =>
    obtain⟨k1,k2⟩:=h.kid a v b hx (by omega)
    have ih:=zie m r T pth b h k1 (by rw[k2];simp;omega) (fun x hx=>hf x (by simp[hx]))
    rw[hkk _ k2] at ih
    have e:(pth b).length=(pth a).length+1:=by rw[k2];simp
    rw[e] at ih
    exact⟨ih.inv,ih.width,ih.depth,ih.is,ih.same,fun q=>⟨(ih.more q).1,by have:=(ih.more q).2;simp only at this ⊢;omega⟩,ih.sem⟩
   |none =>
    obtain⟨g1,g2,g3,g4,g5,g6⟩:=h.grow ha hv (by omega) hx
    have ih:=zie m r (zey (zb3 T) a v T.nodes.length) _ T.nodes.length g1 (by rw[g3];omega) (by rw[if_pos rfl,g5];simp;omega) (fun x hx=>by rw[g4];exact hf x (by simp[hx]))
    rw[if_pos rfl,g5,hkk _ rfl] at ih
    have e:(pth a++[v]).length=(pth a).length+1:=by simp
    rw[e] at ih
    have hsem:∀ q:zaq,q.length=T.depth->zjg (zey (zb3 T) a v T.nodes.length) q=zjg T q:=fun q hq=>h.grow_sem (by omega) hx g2 q 0 h.pos (by rw[h.root];simpa using hq)
    have hklen:(pth a++(v::r).take (T.depth - (pth a).length)).length=T.depth:=by simp;omega
    have hnone:zjg T (pth a++(v::r).take (T.depth - (pth a).length))=none:=by
     unfold zjg
     rw[zfn,hreach,hdd,List.take_succ_cons]
     simp[goT,hx]
    have his:=ih.is
    rw[hsem _ hklen,hnone] at his
    refine⟨ih.inv,by rw[ih.width,g4],by rw[ih.depth,g5],by rw[hnone];exact his,fun q=>?_,fun q=>⟨by rw[(ih.more q).1,g6],by have:=(ih.more q).2;rw[g3] at this;simp only at this ⊢;omega⟩,fun q hq=>?_⟩
    ·rw[his] at q;cases q
    ·rw[ih.sem q (by rw[g5];exact hq),hsem q hq]
theorem zzp{T:zad}{pth:Nat->zaq}(h:zen T pth)(row:zaq)(m:Nat)(hl:row.length=3)(hf:zm9 T row=true):Added T (zfh T row m).1 (row.take T.depth) m (zfh T row m).2 (T.depth - 1):=by
 have:=zie m row T pth 0 h h.pos (by rw[h.root];simp[hl];exact h.dep.2) (fun v hv=>by simp only[zm9,List.all_eq_true,decide_eq_true_eq] at hf;exact hf v hv)
 rw[h.root] at this
 unfold zfh
 rw[if_pos hf]
 simpa using this
theorem zpl(w d:Nat):(zfp w d).width=za1 w:=rfl
theorem zgj(w d:Nat):(zfp w d).depth=zbp d:=rfl
theorem zd5(d:Nat):1<=zbp d/\zbp d<=3:=by unfold zbp;by_cases h1:d < 1 <;> by_cases h2:d > 3 <;> simp[h1,h2] <;> omega
theorem zs8(w d a v:Nat):zaw (zfp w d) a v=none:=by
 rw[zgg]
 refine if_neg fun q=>?_
 have h0:a=0:=by have:=q.1;simp[zfp,zb3] at this;exact this
 subst h0
 exact(zgy.new (za1 w)).2 v q.2
theorem z4j(w d:Nat):zen (zfp w d) (fun _=>[]):=by
 refine⟨zd5 d,by show 1<=za1 w;unfold za1;split <;> omega,by simp[zfp,zb3],?_,rfl,fun a _=>by show 0 < zbp d;exact(zd5 d).1,fun a b ha hb _=>?_,(fun a v b hd=>by rw[zs8] at hd;exact absurd hd (by simp)),fun b hb hb0=>?_⟩
 ·intro a ha
  have h0:a=0:=by simp[zfp,zb3] at ha;exact ha
  subst h0
  exact(zgy.new (za1 w)).1
 ·simp[zfp,zb3] at ha hb;omega
 ·simp[zfp,zb3] at hb;omega
theorem zmm(w d:Nat)(q:zaq)(hq:q≠[]):zjg (zfp w d) q=none:=by
 cases q with
 |nil=>exact absurd rfl hq
 |cons v q=>simp[zjg,goT,zs8]
theorem znm(T:zad):∀(r:zaq) (a level:Nat),level < T.depth->T.depth<=level+r.length->za9 T a level r=goT T a (r.take (T.depth - level))
 |[],a,level,h1,h2=>by simp at h2;omega
 |v::r,a,level,h1,h2=>by
  obtain⟨k,hk⟩:∃ k,T.depth - level=k+1:=⟨T.depth - level - 1,by omega⟩
  unfold za9
  rw[hk,List.take_succ_cons]
  simp only[goT]
  cases hd:zaw T a v with
  |none=>rfl
  |some b =>
   simp only
   by_cases e:level+1 ≥ T.depth
   ·rw[if_pos e]
    have:k=0:=by omega
    subst this
    simp[goT]
   ·rw[if_neg e,znm T r b (level+1) (by omega) (by simp at h2;omega)]
    have:T.depth - (level+1)=k:=by omega
    rw[this]
theorem z09{T:zad}{pth:Nat->zaq}(h:zen T pth)(row:zaq)(hl:row.length=3):zes T row=zjg T (row.take T.depth):=by
 have:=znm T row 0 0 (by have:=h.dep.1;omega) (by rw[hl];have:=h.dep.2;omega)
 simpa [zes,zjg] using this
def zhm(T:zad):Nat->Nat->Nat->List zaq
 |0,_,_=>[[]]
 |d+1,a,f=>(List.range' f (T.width - f)).flatMap fun v=>match zaw T a v with
  |none=>[]
  |some b=>(zhm T d b 0).map (v::·)
theorem zyf{T:zad}{d a f:Nat}(h:∀ u,f<=u->zaw T a u=none):zhm T (d+1) a f=[]:=by
 simp only[zhm,List.flatMap_eq_nil_iff,List.mem_range'_1]
 intro v hv
 rw[h v hv.1]
theorem zyg{T:zad}{d a v b:Nat}:∀(n f:Nat),v - f=n->f<=v->v < T.width->zaw T a v=some b->(∀ u,f<=u->u < v->zaw T a u=none)->zhm T (d+1) a f=(zhm T d b 0).map (v::·)++zhm T (d+1) a (v+1):=by
 intro n
 induction n with
 |zero =>
  intro f hn hf hw hb _
  have:f=v:=by omega
  subst this
  obtain⟨k,hk⟩:∃ k,T.width - f=k+1:=⟨T.width - f - 1,by omega⟩
  have hk2:T.width - (f+1)=k:=by omega
  simp only[zhm,hk,hk2,List.range'_succ,List.flatMap_cons,hb]
 |succ n ih =>
  intro f hn hf hw hb hu
  obtain⟨k,hk⟩:∃ k,T.width - f=k+1:=⟨T.width - f - 1,by omega⟩
  have hk2:T.width - (f+1)=k:=by omega
  rw[← ih (f+1) (by omega) (by omega) hw hb (fun u h1 h2=>hu u (by omega) h2)]
  simp only[zhm,hk,hk2,List.range'_succ,List.flatMap_cons,hu f (Nat.le_refl _) (by omega),List.nil_append]
theorem zw5(row:zaq)(l v:Nat)(k:zaq)(hl:l < row.length):(row.set l v).take (l+1)++k=row.take l++v::k:=by
 have:(row.set l v).take (l+1)=row.take l++[v]:=by
  rw[List.take_succ_eq_append_getElem (by simpa using hl),List.take_set_of_le (Nat.le_refl _)]
  simp
 rw[this];simp
theorem zvr(row:zaq)(l v j:Nat)(hl:l < j):(row.set l v).drop j=row.drop j:=by
 rw[List.drop_set,if_pos hl]
theorem zzf{T:zad}(hn:zgl T)(hd3:T.depth<=3):∀(n a level f:Nat) (row:zaq) (rows:List zaq),level < T.depth->row.length=3->f<=T.width->(T.width - f)+1+(T.depth - level - 1) * (T.width+1)<=n →
  ∃ row',zc9 T n a level f row rows=some (row',rows++(zhm T (T.depth - level) a f).map fun k=>row.take level++k++row.drop T.depth)/\row'.length=3/\row'.take level=row.take level/\row'.drop T.depth=row.drop T.depth:=by
 intro n
 induction n with
 |zero=>intro a level f row rows h1 h2 h3 h4;omega
 |succ n ih =>
  intro a level f row rows h1 h2 h3 h4
  obtain⟨d,hd⟩:∃ d,T.depth - level=d+1:=⟨T.depth - level - 1,by omega⟩
  unfold zc9
  cases hl:zcj T a f with
  |none =>
   refine⟨row,?_,h2,rfl,rfl⟩
   rw[hd,zyf (zsu hn hl)]
   simp
  |some v =>
   obtain⟨q1,q2,q3,q4⟩:=zsv hn hl
   obtain⟨b,hb⟩:=Option.isSome_iff_exists.1 q3
   have hkeys:=zyg (d:=d) _ f rfl q1 q2 hb q4
   simp only
   have hset2:(row.set level v).length=3:=by simpa using h2
   have hlr:level < row.length:=by omega
   have hdrop:(row.set level v).drop T.depth=row.drop T.depth:=zvr row level v T.depth h1
   have htake:(row.set level v).take level=row.take level:=by rw[List.take_set_of_le (Nat.le_refl _)]
   have hd1:T.depth - level - 1=d:=by omega
   by_cases e:level+1 ≥ T.depth
   ·rw[if_pos e]
    have hd0:d=0:=by omega
    subst hd0
    obtain⟨row',r1,r2,r3,r4⟩:=ih a level (v+1) (row.set level v) (rows++[row.set level v]) h1 hset2 (by omega) (by rw[hd1] at h4 ⊢;omega)
    refine⟨row',?_,r2,by rw[r3,htake],by rw[r4,hdrop]⟩
    rw[r1,hd,hkeys]
    simp only[zhm,List.map_cons,List.map_nil,List.cons_append,List.nil_append,htake,hdrop,List.append_assoc,Option.some.injEq,Prod.mk.injEq,true_and]
    congr 2
    have:=zw5 row level v (row.drop T.depth) hlr
    have e2:T.depth=level+1:=by omega
    rw[← hdrop,e2] at this ⊢
    rw[List.take_append_drop] at this
    exact this
   ·rw[if_neg e,if_neg (by omega),hb]
    simp only[Option.getD_some]
    have hm:d * (T.width+1)=(d - 1) * (T.width+1)+(T.width+1):=by
     obtain⟨j,rfl⟩:∃ j,d=j+1:=⟨d - 1,by omega⟩
     simp[Nat.succ_mul]
    have hd2:T.depth - (level+1) - 1=d - 1:=by omega
    have hd3':T.depth - (level+1)=d:=by omega
    obtain⟨row1,r1,r2,r3,r4⟩:=ih b (level+1) 0 (row.set level v) rows (by omega) hset2 (by omega) (by rw[hd1] at h4;rw[hd2];omega)
    rw[r1]
    simp only
    obtain⟨row',s1,s2,s3,s4⟩:=ih a level (v+1) row1 (rows++(zhm T (T.depth - (level+1)) b 0).map fun k=>(row.set level v).take (level+1)++k++(row.set level v).drop T.depth) h1 r2 (by omega) (by rw[hd1] at h4 ⊢;omega)
    have t1:row1.take level=row.take level:=by
     have:=congrArg (List.take level) r3
     rwa [List.take_take,List.take_take,Nat.min_eq_left (by omega),htake] at this
    refine⟨row',?_,s2,by rw[s3,t1],by rw[s4,r4,hdrop]⟩
    rw[s1,hd,hkeys,hd3',t1,r4,hdrop,List.map_append,List.map_map,← List.append_assoc]
    congr 3
    refine congrArg (rows++·) (List.map_congr_left fun k _=>?_)
    simp only[Function.comp]
    rw[zw5 row level v k hlr]
def pad(k:zaq)(d:Nat):zaq:=k++([0,0,0]:zaq).drop d
theorem zy0{T:zad}{pth:Nat->zaq}(h:zen T pth)(fuel:Nat)(hf:3 * (T.width+1)<=fuel):zq5 fuel T=some ((zhm T T.depth 0 0).map fun k=>pad k T.depth):=by
 have hd:=h.dep
 have hm:T.width+1+(T.depth - 1) * (T.width+1)<=3 * (T.width+1):=by
  have:(T.depth - 1) * (T.width+1)<=2 * (T.width+1):=Nat.mul_le_mul_right _ (by omega)
  omega
 obtain⟨row',h1,_,_,_⟩:=zzf h.node hd.2 fuel 0 0 0 [0,0,0] [] (by omega) rfl (by omega) (by simp;omega)
 unfold zq5
 rw[h1]
 simp[pad]
theorem zng(T:zad):∀(d a f:Nat) (k:zaq),k∈zhm T d a f↔k.length=d/\(goT T a k).isSome=true/\(0 < d->f<=k.headD 0)
 |0,a,f,k=>by
  simp only[zhm,List.mem_singleton]
  constructor
  ·rintro rfl;simp[goT]
  ·rintro⟨h,_⟩;exact List.length_eq_zero_iff.1 h
 |d+1,a,f,k=>by
  simp only[zhm,List.mem_flatMap,List.mem_range'_1]
  constructor
  ·rintro⟨v,hv,hk⟩
   cases hd:zaw T a v with
   |none=>rw[hd] at hk;simp at hk
   |some b =>
    rw[hd] at hk
    simp only[List.mem_map] at hk
    obtain⟨k',hk',rfl⟩:=hk
    obtain⟨h1,h2,_⟩:=(zng T d b 0 k').1 hk'
    refine⟨by simp[h1],?_,fun _=>by simpa using hv.1⟩
    simp only[goT,hd]
    exact h2
  ·rintro⟨h1,h2,h3⟩
   cases k with
   |nil=>simp at h1
   |cons v k =>
    simp only[goT] at h2
    simp only[List.headD_cons] at h3
    cases hd:zaw T a v with
    |none=>rw[hd] at h2;simp at h2
    |some b =>
     rw[hd] at h2
     have hw:=(zgp hd).2
     have:=h3 (by omega)
     refine⟨v,by omega,?_⟩
     rw[hd]
     simp only[List.mem_map]
     exact⟨k,(zng T d b 0 k).2 ⟨by simpa using h1,h2,fun _=>Nat.zero_le _⟩,rfl⟩
end Go.Proofs.YteampbddflhngabGreat
