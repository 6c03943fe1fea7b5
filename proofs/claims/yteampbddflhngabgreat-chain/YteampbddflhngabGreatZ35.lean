import Derived.Test.YteampbddflhngabGreatZ34

namespace Go.Proofs.YteampbddflhngabGreat
def zjq(T:zad)(q:zao):Option Nat:=goT T 0 q
structure Added (T T':zad) (key:zao) (m:Nat) (new:Bool) (room:Nat):Prop where
 inv:∃ pth',zer T' pth'
 width:T'.width=T.width
 depth:T'.depth=T.depth
 is:new=(zjq T key).isNone
 same:new=false->T'=T
 more:new=true->T'.count=T.count+1/\T'.nodes.length<=T.nodes.length+room
 sem:∀ q,q.length=T.depth->zjq T' q=if q=key then some ((zjq T q).getD m) else zjq T q
theorem zer.grow{T:zad}{pth:Nat->zao}(h:zer T pth){a v:Nat}(ha:a < T.nodes.length)(hv:v < T.width)(hl:(pth a).length+1 < T.depth)(hn:zax T a v=none) :
  zer (ze3 (zb7 T) a v T.nodes.length) (fun c=>if c=T.nodes.length then pth a++[v] else pth c)/\(∀ b u,zax (ze3 (zb7 T) a v T.nodes.length) b u=if b=a/\u=v then some T.nodes.length else zax T b u)/\(ze3 (zb7 T) a v T.nodes.length).nodes.length=T.nodes.length+1/\(ze3 (zb7 T) a v T.nodes.length).width=T.width/\(ze3 (zb7 T) a v T.nodes.length).depth=T.depth/\(ze3 (zb7 T) a v T.nodes.length).count=T.count:=by
 have hg:=z1b h.node
 have hln:(zb7 T).nodes.length=T.nodes.length+1:=by simp[zb7]
 obtain⟨s1,s2⟩:=zxj hg.1 (a:=a) (v:=v) (d:=T.nodes.length) (by rw[hln];omega) (show v < (zb7 T).width from hv) (by rw[hg.2];exact hn)
 have hd:∀ b u,zax (ze3 (zb7 T) a v T.nodes.length) b u=if b=a/\u=v then some T.nodes.length else zax T b u:=fun b u=>by rw[s2,hg.2]
 have hl1:(ze3 (zb7 T) a v T.nodes.length).nodes.length=T.nodes.length+1:=by rw[zhe,hln]
 have hw1:(ze3 (zb7 T) a v T.nodes.length).width=T.width:=by rw[zi1];rfl
 have hd1:(ze3 (zb7 T) a v T.nodes.length).depth=T.depth:=by rw[zhp];rfl
 have hc1:(ze3 (zb7 T) a v T.nodes.length).count=T.count:=by rw[zty];rfl
 have hp:=h.pos
 have hfresh:∀ c,c < T.nodes.length->pth c≠pth a++[v]:=by
  intro c hc e
  have hc0:c≠0:=by rintro rfl;rw[h.root] at e;exact absurd e.symm (by simp)
  obtain⟨a',v',q1,q2,q3⟩:=h.par c hc hc0
  rw[e] at q3
  have e1:=List.append_inj' q3 rfl
  have e2:=h.inj a a' ha (zgr q1).1 e1.1
  subst e2
  simp only[List.cons.injEq,and_true] at e1
  rw[← e1.2] at q1
  rw[q1] at hn;cases hn
 refine⟨⟨by rw[hd1];exact h.dep,by rw[hw1];exact h.wid,by rw[hl1];omega,s1,?_,fun c hc=>?_,fun c d hc hdd e=>?_,fun c u b hcb hlc=>?_,fun b hb hb0=>?_⟩,hd,hl1,hw1,hd1,hc1⟩
 ·rw[if_neg (by omega)];exact h.root
 ·rw[hl1] at hc
  rw[hd1]
  by_cases e:c=T.nodes.length
  ·rw[if_pos e];simp;omega
  ·rw[if_neg e];exact h.lev c (by omega)
 ·rw[hl1] at hc hdd
  by_cases e1:c=T.nodes.length
  ·by_cases e2:d=T.nodes.length
   ·rw[e1,e2]
   ·rw[if_pos e1,if_neg e2] at e
    exact absurd e.symm (hfresh d (by omega))
  ·by_cases e2:d=T.nodes.length
   ·rw[if_neg e1,if_pos e2] at e
    exact absurd e (hfresh c (by omega))
   ·rw[if_neg e1,if_neg e2] at e
    exact h.inj c d (by omega) (by omega) e
 ·rw[hd] at hcb
  rw[hd1] at hlc
  rw[hl1]
  by_cases e:c=a/\u=v
  ·rw[if_pos e] at hcb
   simp only[Option.some.injEq] at hcb
   obtain⟨rfl,rfl⟩:=e
   subst hcb
   rw[if_pos rfl,if_neg (by omega)]
   exact⟨by omega,rfl⟩
  ·rw[if_neg e] at hcb
   have hcl:=(zgr hcb).1
   rw[if_neg (by omega)] at hlc
   obtain⟨k1,k2⟩:=h.kid c u b hcb hlc
   rw[if_neg (by omega),if_neg (by omega)]
   exact⟨by omega,k2⟩
 ·rw[hl1] at hb
  by_cases e:b=T.nodes.length
  ·refine⟨a,v,by rw[hd,if_pos ⟨rfl,rfl⟩,e],by rw[if_neg (by omega),hd1];exact hl,by rw[if_pos e,if_neg (by omega)]⟩
  ·obtain⟨c,u,q1,q2,q3⟩:=h.par b (by omega) hb0
   have hcl:=(zgr q1).1
   refine⟨c,u,?_,by rw[if_neg (by omega),hd1];exact q2,by rw[if_neg e,if_neg (by omega)];exact q3⟩
   rw[hd,if_neg]
   ·exact q1
   ·rintro⟨rfl,rfl⟩;rw[hn] at q1;cases q1
theorem zer.grow_sem{T T1:zad}{pth:Nat->zao}(h:zer T pth){a v:Nat}(hl:(pth a).length+1 < T.depth)(hn:zax T a v=none)(hd:∀ b u,zax T1 b u=if b=a/\u=v then some T.nodes.length else zax T b u):∀(q:zao) (c:Nat),c < T.nodes.length->(pth c).length+q.length=T.depth->goT T1 c q=goT T c q
 |[],c,_,_=>rfl
 |u::q,c,hc,he=>by
  simp only[goT,hd]
  simp only[List.length_cons] at he
  by_cases e:c=a/\u=v
  ·obtain⟨rfl,rfl⟩:=e
   rw[if_pos ⟨rfl,rfl⟩,hn]
   simp only
   cases q with
   |nil=>simp at he;omega
   |cons x q =>
    simp only[goT,hd]
    by_cases hca:c=T.nodes.length
    ·omega
    ·rw[if_neg (fun q=>hca q.1.symm)]
     cases hx:zax T T.nodes.length x with
     |none=>rfl
     |some y=>have:=(zgr hx).1;omega
  ·rw[if_neg e]
   cases hx:zax T c u with
   |none=>rfl
   |some b =>
    simp only
    by_cases hq:(pth c).length+1 < T.depth
    ·obtain⟨k1,k2⟩:=h.kid c u b hx hq
     exact h.grow_sem hl hn hd q b k1 (by rw[k2];simp;omega)
    ·cases q with
     |nil=>rfl
     |cons x q=>simp at he;omega
theorem zer.put_sem{T T1:zad}{pth:Nat->zao}(h:zer T pth){a v m:Nat}(hl:(pth a).length+1=T.depth)(ha:a < T.nodes.length)(hn:zax T a v=none)(hd:∀ b u,zax T1 b u=if b=a/\u=v then some m else zax T b u):∀(q:zao) (c:Nat),c < T.nodes.length->(pth c).length+q.length=T.depth->goT T1 c q=if pth c++q=pth a++[v] then some m else goT T c q
 |[],c,hc,he=>by have:=h.lev c hc;simp at he;omega
 |u::q,c,hc,he=>by
  simp only[goT,hd]
  simp only[List.length_cons] at he
  by_cases hq:(pth c).length+1 < T.depth
  ·have hca:c≠a:=by rintro rfl;omega
   rw[if_neg (fun q=>hca q.1)]
   cases hx:zax T c u with
   |none =>
    simp only
    rw[if_neg]
    intro e
    have key:∀(k:Nat) (q:zao) (b:Nat),q.length=k->b < T.nodes.length->pth c++u::q=pth b->False:=by
     intro k
     induction k with
     |zero =>
      intro q b hk hb e
      have:q=[]:=List.length_eq_zero_iff.1 hk
      subst this
      have hb0:b≠0:=by rintro rfl;rw[h.root] at e;simp at e
      obtain⟨x,y,q1,q2,q3⟩:=h.par b hb hb0
      rw[← e] at q3
      have e1:=List.append_inj' q3 rfl
      have:=h.inj c x hc (zgr q1).1 e1.1
      subst this
      simp only[List.cons.injEq,and_true] at e1
      rw[← e1.2,hx] at q1
      cases q1
     |succ k ih =>
      intro q b hk hb e
      have hb0:b≠0:=by rintro rfl;rw[h.root] at e;simp at e
      obtain⟨x,y,q1,q2,q3⟩:=h.par b hb hb0
      have hqn:q≠[]:=by rintro rfl;simp at hk
      have hsp:q=q.dropLast++[q.getLast hqn]:=(List.dropLast_concat_getLast hqn).symm
      rw[← e,hsp] at q3
      have e3:(pth c++u::q.dropLast)++[q.getLast hqn]=pth x++[y]:=by rw[← q3];simp
      have e1:=List.append_inj' e3 rfl
      exact ih q.dropLast x (by simp[hk]) (zgr q1).1 e1.1
    have hqn:q≠[]:=by rintro rfl;simp at he;omega
    have hsp:q=q.dropLast++[q.getLast hqn]:=(List.dropLast_concat_getLast hqn).symm
    rw[hsp] at e
    have e3:(pth c++u::q.dropLast)++[q.getLast hqn]=pth a++[v]:=by rw[← e];simp
    have e1:=List.append_inj' e3 rfl
    exact key _ q.dropLast a rfl ha e1.1
   |some b =>
    simp only
    obtain⟨k1,k2⟩:=h.kid c u b hx hq
    rw[h.put_sem hl ha hn hd q b k1 (by rw[k2];simp;omega),k2]
    simp
  ·have hq0:q=[]:=List.length_eq_zero_iff.1 (by have:=h.lev c hc;omega)
   subst hq0
   by_cases e:c=a/\u=v
   ·obtain⟨rfl,rfl⟩:=e
    simp[goT]
   ·rw[if_neg e]
    have hne:¬ pth c++[u]=pth a++[v]:=by
     intro e2
     have e1:=List.append_inj' e2 rfl
     exact e ⟨h.inj c a hc ha e1.1,by simpa using e1.2⟩
    rw[if_neg hne]
    cases zax T c u <;> rfl
theorem zer.reach{T:zad}{pth:Nat->zao}(h:zer T pth):∀(k:Nat) (b:Nat),b < T.nodes.length->(pth b).length=k->goT T 0 (pth b)=some b:=by
 intro k
 induction k with
 |zero =>
  intro b hb hk
  have e:pth b=pth 0:=by rw[h.root];exact List.length_eq_zero_iff.1 hk
  have:=h.inj b 0 hb h.pos e
  subst this
  rw[h.root];rfl
 |succ k ih =>
  intro b hb hk
  have hb0:b≠0:=by rintro rfl;rw[h.root] at hk;simp at hk
  obtain⟨x,y,q1,q2,q3⟩:=h.par b hb hb0
  have hx:=ih x (zgr q1).1 (by rw[q3] at hk;simpa using hk)
  rw[q3,zfo,hx]
  simp[goT,q1]
theorem zij(m:Nat):∀(r:zao) (T:zad) (pth:Nat->zao) (a:Nat),zer T pth->a < T.nodes.length->T.depth<=(pth a).length+r.length->(∀ v∈r,v < T.width)->Added T (zc4 m T a (pth a).length r).1 (pth a++r.take (T.depth - (pth a).length)) m (zc4 m T a (pth a).length r).2 (T.depth - 1 - (pth a).length)
 |[],T,pth,a,h,ha,hl,_=>by have:=h.lev a ha;simp at hl;omega
 |v::r,T,pth,a,h,ha,hl,hf=>by
  have hlev:=h.lev a ha
  have hv:v < T.width:=hf v (by simp)
  have hreach:=h.reach _ a ha rfl
  simp only[List.length_cons] at hl
  unfold zc4
  by_cases hd:(pth a).length+1 ≥ T.depth
  ·rw[if_pos hd]
   have hd1:T.depth - (pth a).length=1:=by omega
   rw[hd1]
   have hkey:zjq T (pth a++(v::r).take 1)=zax T a v:=by
    unfold zjq
    rw[zfo,hreach]
    simp only[List.take_succ_cons,List.take_zero,Option.bind_some,goT]
    cases zax T a v <;> rfl
   unfold zpi
   cases hx:zax T a v with
   |some b =>
    refine⟨⟨pth,h⟩,rfl,rfl,by rw[hkey,hx];rfl,fun _=>rfl,fun q=>by simp at q,fun q hq=>?_⟩
    by_cases e:q=pth a++(v::r).take 1
    ·subst e
     rw[if_pos rfl,hkey,hx];rfl
    ·rw[if_neg e]
   |none =>
    have hps:=zxj h.node (d:=m) ha hv hx
    have hgo:∀ q c,goT { ze3 T a v m with count:=(ze3 T a v m).count+1 } c q=goT (ze3 T a v m) c q:=by
     intro q
     induction q with
     |nil=>intro c;rfl
     |cons x q ih =>
      intro c
      simp only[goT]
      have:zax { ze3 T a v m with count:=(ze3 T a v m).count+1 } c x=zax (ze3 T a v m) c x:=rfl
      rw[this]
      cases zax (ze3 T a v m) c x with
      |none=>rfl
      |some b=>exact ih b
    refine⟨⟨pth,?_⟩,zi1 _ _ _ _,zhp _ _ _ _,by rw[hkey,hx];rfl,fun q=>by simp at q,fun _=>⟨by simp[zty],by simp[zhe]⟩,fun q hq=>?_⟩
    ·have hdd:∀ b u,zax { ze3 T a v m with count:=(ze3 T a v m).count+1 } b u=if b=a/\u=v then some m else zax T b u:=hps.2
     refine⟨by show 1<=(ze3 T a v m).depth/\(ze3 T a v m).depth<=3;rw[zhp];exact h.dep,by show 1<=(ze3 T a v m).width;rw[zi1];exact h.wid,by show 0 < (ze3 T a v m).nodes.length;rw[zhe];exact h.pos,hps.1,h.root,fun c hc=>by show _ < (ze3 T a v m).depth;rw[zhp];exact h.lev c (by simpa [zhe] using hc),fun c d hc hdl e=>h.inj c d (by simpa [zhe] using hc) (by simpa [zhe] using hdl) e,fun c u b hcb hlc=>?_,fun b hb hb0=>?_⟩
     ·rw[hdd] at hcb
      have hlc':(pth c).length+1 < T.depth:=by simpa [zhp] using hlc
      by_cases e:c=a/\u=v
      ·obtain⟨rfl,rfl⟩:=e;omega
      ·rw[if_neg e] at hcb
       obtain⟨k1,k2⟩:=h.kid c u b hcb hlc'
       exact⟨by simpa [zhe] using k1,k2⟩
     ·obtain⟨c,u,q1,q2,q3⟩:=h.par b (by simpa [zhe] using hb) hb0
      refine⟨c,u,?_,by simpa [zhp] using q2,q3⟩
      rw[hdd,if_neg]
      ·exact q1
      ·rintro⟨rfl,rfl⟩;rw[hx] at q1;cases q1
    ·unfold zjq
     rw[hgo,h.put_sem (by omega) ha hx hps.2 q 0 h.pos (by rw[h.root];simpa using hq),h.root]
     have htk:(v::r).take 1=[v]:=by simp
     rw[htk,List.nil_append]
     by_cases e:q=pth a++[v]
     ·rw[if_pos e,if_pos e]
      have:goT T 0 q=none:=by rw[e];have:=hkey;unfold zjq at this;rw[htk] at this;rw[this,hx]
      rw[this];rfl
     ·rw[if_neg e,if_neg e]
  ·rw[if_neg hd]
   obtain⟨dd,hdd⟩:∃ dd,T.depth - (pth a).length=dd+1:=⟨T.depth - (pth a).length - 1,by omega⟩
   have hkk:∀ p:zao,p=pth a++[v]->p++r.take (T.depth - p.length)=pth a++(v::r).take (T.depth - (pth a).length):=by
    rintro p rfl
    rw[hdd,List.take_succ_cons]
    have:T.depth - (pth a++[v]).length=dd:=by simp;omega
    rw[this];simp
   unfold zco
   cases hx:zax T a v with
   |some b =>
    obtain⟨k1,k2⟩:=h.kid a v b hx (by omega)
    have ih:=zij m r T pth b h k1 (by rw[k2];simp;omega) (fun x hx=>hf x (by simp[hx]))
    rw[hkk _ k2] at ih
    have e:(pth b).length=(pth a).length+1:=by rw[k2];simp
    rw[e] at ih
    exact⟨ih.inv,ih.width,ih.depth,ih.is,ih.same,fun q=>⟨(ih.more q).1,by have:=(ih.more q).2;simp only at this ⊢;omega⟩,ih.sem⟩
   |none =>
    obtain⟨g1,g2,g3,g4,g5,g6⟩:=h.grow ha hv (by omega) hx
    have ih:=zij m r (ze3 (zb7 T) a v T.nodes.length) _ T.nodes.length g1 (by rw[g3];omega) (by rw[if_pos rfl,g5];simp;omega) (fun x hx=>by rw[g4];exact hf x (by simp[hx]))
    rw[if_pos rfl,g5,hkk _ rfl] at ih
    have e:(pth a++[v]).length=(pth a).length+1:=by simp
    rw[e] at ih
    have hsem:∀ q:zao,q.length=T.depth->zjq (ze3 (zb7 T) a v T.nodes.length) q=zjq T q:=fun q hq=>h.grow_sem (by omega) hx g2 q 0 h.pos (by rw[h.root];simpa using hq)
    have hklen:(pth a++(v::r).take (T.depth - (pth a).length)).length=T.depth:=by simp;omega
    have hnone:zjq T (pth a++(v::r).take (T.depth - (pth a).length))=none:=by
     unfold zjq
     rw[zfo,hreach,hdd,List.take_succ_cons]
     simp[goT,hx]
    have his:=ih.is
    rw[hsem _ hklen,hnone] at his
    refine⟨ih.inv,by rw[ih.width,g4],by rw[ih.depth,g5],by rw[hnone];exact his,fun q=>?_,fun q=>⟨by rw[(ih.more q).1,g6],by have:=(ih.more q).2;rw[g3] at this;simp only at this ⊢;omega⟩,fun q hq=>?_⟩
    ·rw[his] at q;cases q
    ·rw[ih.sem q (by rw[g5];exact hq),hsem q hq]
theorem zz9{T:zad}{pth:Nat->zao}(h:zer T pth)(row:zao)(m:Nat)(hl:row.length=3)(hf:znm T row=true):Added T (zfj T row m).1 (row.take T.depth) m (zfj T row m).2 (T.depth - 1):=by
 have:=zij m row T pth 0 h h.pos (by rw[h.root];simp[hl];exact h.dep.2) (fun v hv=>by simp only[znm,List.all_eq_true,decide_eq_true_eq] at hf;exact hf v hv)
 rw[h.root] at this
 unfold zfj
 rw[if_pos hf]
 simpa using this
theorem zpy(w d:Nat):(zfq w d).width=za2 w:=rfl
theorem zgl(w d:Nat):(zfq w d).depth=zbu d:=rfl
theorem zd9(d:Nat):1<=zbu d/\zbu d<=3:=by unfold zbu;by_cases h1:d < 1 <;> by_cases h2:d > 3 <;> simp[h1,h2] <;> omega
theorem ztl(w d a v:Nat):zax (zfq w d) a v=none:=by
 rw[zgi]
 refine if_neg fun q=>?_
 have h0:a=0:=by have:=q.1;simp[zfq,zb7] at this;exact this
 subst h0
 exact(zg0.new (za2 w)).2 v q.2
theorem z5f(w d:Nat):zer (zfq w d) (fun _=>[]):=by
 refine⟨zd9 d,by show 1<=za2 w;unfold za2;split <;> omega,by simp[zfq,zb7],?_,rfl,fun a _=>by show 0 < zbu d;exact(zd9 d).1,fun a b ha hb _=>?_,(fun a v b hd=>by rw[ztl] at hd;exact absurd hd (by simp)),fun b hb hb0=>?_⟩
 ·intro a ha
  have h0:a=0:=by simp[zfq,zb7] at ha;exact ha
  subst h0
  exact(zg0.new (za2 w)).1
 ·simp[zfq,zb7] at ha hb;omega
 ·simp[zfq,zb7] at hb;omega
theorem zmy(w d:Nat)(q:zao)(hq:q≠[]):zjq (zfq w d) q=none:=by
 cases q with
 |nil=>exact absurd rfl hq
 |cons v q=>simp[zjq,goT,ztl]
theorem zn0(T:zad):∀(r:zao) (a level:Nat),level < T.depth->T.depth<=level+r.length->zbc T a level r=goT T a (r.take (T.depth - level))
 |[],a,level,h1,h2=>by simp at h2;omega
 |v::r,a,level,h1,h2=>by
  obtain⟨k,hk⟩:∃ k,T.depth - level=k+1:=⟨T.depth - level - 1,by omega⟩
  unfold zbc
  rw[hk,List.take_succ_cons]
  simp only[goT]
  cases hd:zax T a v with
  |none=>rfl
  |some b =>
   simp only
   by_cases e:level+1 ≥ T.depth
   ·rw[if_pos e]
    have:k=0:=by omega
    subst this
    simp[goT]
   ·rw[if_neg e,zn0 T r b (level+1) (by omega) (by simp at h2;omega)]
    have:T.depth - (level+1)=k:=by omega
    rw[this]
theorem z1w{T:zad}{pth:Nat->zao}(h:zer T pth)(row:zao)(hl:row.length=3):zdq T row=zjq T (row.take T.depth):=by
 have:=zn0 T row 0 0 (by have:=h.dep.1;omega) (by rw[hl];have:=h.dep.2;omega)
 simpa [zdq,zjq] using this
def zhn(T:zad):Nat->Nat->Nat->List zao
 |0,_,_=>[[]]
 |d+1,a,f=>(List.range' f (T.width - f)).flatMap fun v=>match zax T a v with
  |none=>[]
  |some b=>(zhn T d b 0).map (v::·)
theorem zyx{T:zad}{d a f:Nat}(h:∀ u,f<=u->zax T a u=none):zhn T (d+1) a f=[]:=by
 simp only[zhn,List.flatMap_eq_nil_iff,List.mem_range'_1]
 intro v hv
 rw[h v hv.1]
theorem zyy{T:zad}{d a v b:Nat}:∀(n f:Nat),v - f=n->f<=v->v < T.width->zax T a v=some b->(∀ u,f<=u->u < v->zax T a u=none)->zhn T (d+1) a f=(zhn T d b 0).map (v::·)++zhn T (d+1) a (v+1):=by
 intro n
 induction n with
 |zero =>
  intro f hn hf hw hb _
  have:f=v:=by omega
  subst this
  obtain⟨k,hk⟩:∃ k,T.width - f=k+1:=⟨T.width - f - 1,by omega⟩
  have hk2:T.width - (f+1)=k:=by omega
  simp only[zhn,hk,hk2,List.range'_succ,List.flatMap_cons,hb]
 |succ n ih =>
  intro f hn hf hw hb hu
  obtain⟨k,hk⟩:∃ k,T.width - f=k+1:=⟨T.width - f - 1,by omega⟩
  have hk2:T.width - (f+1)=k:=by omega
  rw[← ih (f+1) (by omega) (by omega) hw hb (fun u h1 h2=>hu u (by omega) h2)]
  simp only[zhn,hk,hk2,List.range'_succ,List.flatMap_cons,hu f (Nat.le_refl _) (by omega),List.nil_append]
theorem zxn(row:zao)(l v:Nat)(k:zao)(hl:l < row.length):(row.set l v).take (l+1)++k=row.take l++v::k:=by
 have:(row.set l v).take (l+1)=row.take l++[v]:=by
  rw[List.take_succ_eq_append_getElem (by simpa using hl),List.take_set_of_le (Nat.le_refl _)]
  simp
 rw[this];simp
theorem zv5(row:zao)(l v j:Nat)(hl:l < j):(row.set l v).drop j=row.drop j:=by
 rw[List.drop_set,if_pos hl]
theorem zz0{T:zad}(hn:zgn T)(hd3:T.depth<=3):∀(n a level f:Nat) (row:zao) (rows:List zao),level < T.depth->row.length=3->f<=T.width->(T.width - f)+1+(T.depth - level - 1) * (T.width+1)<=n →
  ∃ row',zdg T n a level f row rows=some (row',rows++(zhn T (T.depth - level) a f).map fun k=>row.take level++k++row.drop T.depth)/\row'.length=3/\row'.take level=row.take level/\row'.drop T.depth=row.drop T.depth:=by
 intro n
 induction n with
 |zero=>intro a level f row rows h1 h2 h3 h4;omega
 |succ n ih =>
  intro a level f row rows h1 h2 h3 h4
  obtain⟨d,hd⟩:∃ d,T.depth - level=d+1:=⟨T.depth - level - 1,by omega⟩
  unfold zdg
  cases hl:zcm T a f with
  |none =>
   refine⟨row,?_,h2,rfl,rfl⟩
   rw[hd,zyx (zs9 hn hl)]
   simp
  |some v =>
   obtain⟨q1,q2,q3,q4⟩:=zta hn hl
   obtain⟨b,hb⟩:=Option.isSome_iff_exists.1 q3
   have hkeys:=zyy (d:=d) _ f rfl q1 q2 hb q4
   simp only
   have hset2:(row.set level v).length=3:=by simpa using h2
   have hlr:level < row.length:=by omega
   have hdrop:(row.set level v).drop T.depth=row.drop T.depth:=zv5 row level v T.depth h1
   have htake:(row.set level v).take level=row.take level:=by rw[List.take_set_of_le (Nat.le_refl _)]
   have hd1:T.depth - level - 1=d:=by omega
   by_cases e:level+1 ≥ T.depth
   ·rw[if_pos e]
    have hd0:d=0:=by omega
    subst hd0
    obtain⟨row',r1,r2,r3,r4⟩:=ih a level (v+1) (row.set level v) (rows++[row.set level v]) h1 hset2 (by omega) (by rw[hd1] at h4 ⊢;omega)
    refine⟨row',?_,r2,by rw[r3,htake],by rw[r4,hdrop]⟩
    rw[r1,hd,hkeys]
    simp only[zhn,List.map_cons,List.map_nil,List.cons_append,List.nil_append,htake,hdrop,List.append_assoc,Option.some.injEq,Prod.mk.injEq,true_and]
    congr 2
    have:=zxn row level v (row.drop T.depth) hlr
    have e2:T.depth=level+1:=by omega
    rw[← hdrop,e2] at this ⊢
    rw[List.take_append_drop] at this
    exact this
   ·rw[if_neg e,if_neg (by omega),hb]
    simp only[Option.getD_some]
    have hm:d * (T.width+1)=(d - 1) * (T.width+1)+(T.width+1):=by
     obtain⟨j,rfl⟩:∃ j,d=j+1:=⟨d - 1,by omega⟩
     simp[Nat.succ_mul]
    have hd2:T.depth - (level+1) - 1=d - 1:=by omega
    have hd3':T.depth - (level+1)=d:=by omega
    obtain⟨row1,r1,r2,r3,r4⟩:=ih b (level+1) 0 (row.set level v) rows (by omega) hset2 (by omega) (by rw[hd1] at h4;rw[hd2];omega)
    rw[r1]
    simp only
    obtain⟨row',s1,s2,s3,s4⟩:=ih a level (v+1) row1 (rows++(zhn T (T.depth - (level+1)) b 0).map fun k=>(row.set level v).take (level+1)++k++(row.set level v).drop T.depth) h1 r2 (by omega) (by rw[hd1] at h4 ⊢;omega)
    have t1:row1.take level=row.take level:=by
     have:=congrArg (List.take level) r3
     rwa [List.take_take,List.take_take,Nat.min_eq_left (by omega),htake] at this
    refine⟨row',?_,s2,by rw[s3,t1],by rw[s4,r4,hdrop]⟩
    rw[s1,hd,hkeys,hd3',t1,r4,hdrop,List.map_append,List.map_map,← List.append_assoc]
    congr 3
    refine congrArg (rows++·) (List.map_congr_left fun k _=>?_)
    simp only[Function.comp]
    rw[zxn row level v k hlr]
def pad(k:zao)(d:Nat):zao:=k++([0,0,0]:zao).drop d
theorem zzl{T:zad}{pth:Nat->zao}(h:zer T pth)(fuel:Nat)(hf:3 * (T.width+1)<=fuel):zrf fuel T=some ((zhn T T.depth 0 0).map fun k=>pad k T.depth):=by
 have hd:=h.dep
 have hm:T.width+1+(T.depth - 1) * (T.width+1)<=3 * (T.width+1):=by
  have:(T.depth - 1) * (T.width+1)<=2 * (T.width+1):=Nat.mul_le_mul_right _ (by omega)
  omega
 obtain⟨row',h1,_,_,_⟩:=zz0 h.node hd.2 fuel 0 0 0 [0,0,0] [] (by omega) rfl (by omega) (by simp;omega)
 unfold zrf
 rw[h1]
 simp[pad]
theorem znu(T:zad):∀(d a f:Nat) (k:zao),k∈zhn T d a f↔k.length=d/\(goT T a k).isSome=true/\(0 < d->f<=k.headD 0)
 |0,a,f,k=>by
  simp only[zhn,List.mem_singleton]
  constructor
  ·rintro rfl;simp[goT]
  ·rintro⟨h,_⟩;exact List.length_eq_zero_iff.1 h
 |d+1,a,f,k=>by
  simp only[zhn,List.mem_flatMap,List.mem_range'_1]
  constructor
  ·rintro⟨v,hv,hk⟩
   cases hd:zax T a v with
   |none=>rw[hd] at hk;simp at hk
   |some b =>
    rw[hd] at hk
    simp only[List.mem_map] at hk
    obtain⟨k',hk',rfl⟩:=hk
    obtain⟨h1,h2,_⟩:=(znu T d b 0 k').1 hk'
    refine⟨by simp[h1],?_,fun _=>by simpa using hv.1⟩
    simp only[goT,hd]
    exact h2
  ·rintro⟨h1,h2,h3⟩
   cases k with
   |nil=>simp at h1
   |cons v k =>
    simp only[goT] at h2
    simp only[List.headD_cons] at h3
    cases hd:zax T a v with
    |none=>rw[hd] at h2;simp at h2
    |some b =>
     rw[hd] at h2
     have hw:=(zgr hd).2
     have:=h3 (by omega)
     refine⟨v,by omega,?_⟩
     rw[hd]
     simp only[List.mem_map]
     exact⟨k,(znu T d b 0 k).2 ⟨by simpa using h1,h2,fun _=>Nat.zero_le _⟩,rfl⟩
def ltR:zao->zao->Prop
 |a::x,b::y=>a < b∨a=b/\ltR x y
 |_,_=>False
theorem zpu:∀ x:zao,¬ ltR x x
 |[]=>id
 |a::x=>by
  rintro(h|⟨_,h⟩)
  ·omega
  ·exact zpu x h
theorem zmb(T:zad):∀(d a f:Nat),(zhn T d a f).Pairwise ltR
 |0,a,f=>by simp[zhn]
 |d+1,a,f=>by
  simp only[zhn]
  rw[List.pairwise_flatMap]
  refine⟨fun v _=>?_,?_⟩
  ·cases zax T a v with
   |none=>exact List.Pairwise.nil
   |some b =>
    simp only
    rw[List.pairwise_map]
    exact(zmb T d b 0).imp fun h=>Or.inr ⟨rfl,h⟩
  ·refine List.Pairwise.imp ?_ (List.pairwise_lt_range' (s:=f) (n:=T.width - f))
   intro v u hvu x hx y hy
   cases h1:zax T a v with
   |none=>rw[h1] at hx;simp at hx
   |some b =>
    rw[h1] at hx
    cases h2:zax T a u with
    |none=>rw[h2] at hy;simp at hy
    |some c =>
     rw[h2] at hy
     simp only[List.mem_map] at hx hy
     obtain⟨x',_,rfl⟩:=hx
     obtain⟨y',_,rfl⟩:=hy
     exact Or.inl hvu
theorem zj5(T:zad)(d a f:Nat):(zhn T d a f).Nodup:=by
 refine(zmb T d a f).imp ?_
 rintro x y h rfl
 exact zpu x h
theorem zn2:∀ {l1 l2:List zao},l1.Nodup->(∀ x∈l1,x∈l2)->l1.length<=l2.length
 |[],l2,_,_=>by simp
 |a::l1,l2,hn,hs=>by
  have ha:=hs a (by simp)
  have h1:=zn2 (l1:=l1) (l2:=l2.erase a) (List.nodup_cons.1 hn).2 (fun x hx=>by
   have hne:x≠a:=by rintro rfl;exact(List.nodup_cons.1 hn).1 hx
   exact(List.mem_erase_of_ne hne).2 (hs x (by simp[hx])))
  rw[List.length_erase_of_mem ha] at h1
  have:=List.length_pos_of_mem ha
  simp;omega
theorem z5h{l1 l2:List zao}(h1:l1.Nodup)(h2:l2.Nodup)(h:∀ x,x∈l1↔x∈l2):l1.length=l2.length :=
 Nat.le_antisymm (zn2 h1 fun x hx=>(h x).1 hx) (zn2 h2 fun x hx=>(h x).2 hx)
def keysT(T:zad):List zao:=zhn T T.depth 0 0
theorem zb4(T:zad)(k:zao):k∈keysT T↔k.length=T.depth/\(zjq T k).isSome=true:=by
 unfold keysT
 rw[znu]
 exact⟨fun h=>⟨h.1,h.2.1⟩,fun h=>⟨h.1,h.2,fun _=>Nat.zero_le _⟩⟩
structure zd5 (T:zad):Prop where
 inv:∃ pth,zer T pth
 cnt:(keysT T).length=T.count
 room:T.nodes.length<=1+2 * T.count
theorem zd5.new(w d:Nat):zd5 (zfq w d):=by
 refine⟨⟨_,z5f w d⟩,?_,by simp[zfq,zb7]⟩
 have:keysT (zfq w d)=[]:=by
  rw[List.eq_nil_iff_forall_not_mem]
  intro k hk
  obtain⟨h1,h2⟩:=(zb4 _ k).1 hk
  rw[zmy w d k (by rintro rfl;have:=(zd9 d).1;rw[zgl] at h1;simp at h1;omega)] at h2
  cases h2
 rw[this];rfl
theorem zld{T:zad}:∀(k:zao) (a:Nat),(goT T a k).isSome=true->∀ v∈k,v < T.width
 |[],_,_,v,hv=>by cases hv
 |u::k,a,h,v,hv=>by
  simp only[goT] at h
  cases hd:zax T a u with
  |none=>rw[hd] at h;simp at h
  |some b =>
   rw[hd] at h
   rcases List.mem_cons.1 hv with rfl|hv
   ·exact(zgr hd).2
   ·exact zld k b h v hv
theorem zd5.add{T:zad}(h:zd5 T)(row:zao)(m:Nat)(hl:row.length=3)(hf:znm T row=true) :
  zd5 (zfj T row m).1/\(zfj T row m).1.width=T.width/\(zfj T row m).1.depth=T.depth/\(zfj T row m).2=(zjq T (row.take T.depth)).isNone/\((zfj T row m).2=false->(zfj T row m).1=T)/\((zfj T row m).2=true->(zfj T row m).1.count=T.count+1)/\∀ q,q.length=T.depth->zjq (zfj T row m).1 q=if q=row.take T.depth then some ((zjq T q).getD m) else zjq T q:=by
 obtain⟨pth,hi⟩:=h.inv
 have ha:=zz9 hi row m hl hf
 have hd:=hi.dep
 refine⟨⟨ha.inv,?_,?_⟩,ha.width,ha.depth,ha.is,ha.same,fun q=>(ha.more q).1,ha.sem⟩
 ·cases hb:(zfj T row m).2 with
  |false=>rw[ha.same hb];exact h.cnt
  |true =>
   rw[(ha.more hb).1,← h.cnt]
   have his:=ha.is
   rw[hb] at his
   have hkl:(row.take T.depth).length=T.depth:=by rw[List.length_take,hl];omega
   have hnot:row.take T.depth∉keysT T:=fun hm=>by
    have:=((zb4 T _).1 hm).2
    rw[← Option.not_isNone,← his] at this
    cases this
   have:=z5h (l1:=keysT (zfj T row m).1) (l2:=row.take T.depth::keysT T) (zj5 _ _ _ _) (List.nodup_cons.2 ⟨hnot,zj5 _ _ _ _⟩) (fun k=>by
    rw[zb4,ha.depth,List.mem_cons,zb4]
    by_cases hk:k.length=T.depth
    ·rw[ha.sem k hk]
     by_cases e:k=row.take T.depth
     ·simp[e,hkl]
     ·simp[e,hk]
    ·constructor
     ·intro q;exact absurd q.1 hk
     ·rintro(q|q)
      ·rw[q] at hk;exact absurd hkl hk
      ·exact absurd q.1 hk)
   simpa using this
 ·cases hb:(zfj T row m).2 with
  |false=>rw[ha.same hb];exact h.room
  |true =>
   have:=ha.more hb
   have:=h.room
   omega
theorem zd5.rows{T:zad}(h:zd5 T)(fuel:Nat)(hf:3 * (T.width+1)<=fuel):zrf fuel T=some ((keysT T).map fun k=>pad k T.depth):=by
 obtain⟨pth,hi⟩:=h.inv
 exact zzl hi fuel hf
theorem zd5.rowsG{T:zad}(h:zd5 T)(fuel:Nat)(hf:3 * (T.width+1)<=fuel)(hc:T.count<=1048576):rowsG fuel T=some ((keysT T).map fun k=>pad k T.depth):=by
 unfold Go.Proofs.YteampbddflhngabGreat.rowsG
 rw[h.rows fuel hf]
 simp[h.cnt,hc]
theorem zd5.okT{T:zad}(h:zd5 T)(hc:T.count<=10000000):okT T=true:=by
 have:=h.room
 simp only[Go.Proofs.YteampbddflhngabGreat.okT,Bool.and_eq_true,decide_eq_true_eq]
 omega
theorem zd5.mark{T:zad}(h:zd5 T)(row:zao)(hl:row.length=3):zdq T row=zjq T (row.take T.depth):=by
 obtain⟨pth,hi⟩:=h.inv
 exact z1w hi row hl
def zhx(J:zau)(h:Nat × Nat)(v:Nat):Option Nat:=zax (J.sides.getD h.1 zee.zero).rows ((J.sides.getD h.1 zee.zero).nodes.getD h.2 0) v
def zut(J:zau):Prop:=∀ i,zgn (J.sides.getD i zee.zero).rows
def zki(J J':zau):Prop:=J'={ J with moves:=J'.moves }
theorem zki.trans{a b c:zau}(h:zki a b)(k:zki b c):zki a c:=by
 unfold zki at *
 rw[h] at k
 exact k
theorem zki.sides{a b:zau}(h:zki a b):b.sides=a.sides:=by rw[h]
theorem zy1{J:zau}{h:Nat × Nat}{f:Nat}(hs:zcp J h=true):zki J (zhc J h f).1/\(zhc J h f).2=zcm (J.sides.getD h.1 zee.zero).rows ((J.sides.getD h.1 zee.zero).nodes.getD h.2 0) f:=by
 unfold zhc
 rw[if_pos hs]
 exact⟨rfl,rfl⟩
def zst(turn same len i:Nat):Prop:=i < turn/\turn<=i+same∨turn<=i/\turn+len<=i+same
def zz6(J:zau)(hs:List (Nat × Nat))(f:Nat):Option Nat->Prop
 |none=>∀ u,f<=u->∃ h∈hs,zhx J h u=none
 |some v=>f<=v/\(∀ h∈hs,(zhx J h v).isSome=true)/\∀ u,f<=u->u < v->∃ h∈hs,zhx J h u=none
theorem zyq{J J':zau}(h:zki J J')(x:Nat × Nat)(v:Nat):zhx J' x v=zhx J x v:=by unfold zhx;rw[h.sides]
theorem zux(W f:Nat)(hs:List (Nat × Nat))(J0:zau)(hok:zut J0)(hst:∀ h∈hs,zcp J0 h=true)(hw:∀ h∈hs,∀ v,(zhx J0 h v).isSome=true->v < W) :
  ∀(n:Nat) (J:zau) (at' same turn:Nat),zki J0 J->f<=at'->turn < hs.length->same<=hs.length->(∀ u,f<=u->u < at'->∃ h∈hs,zhx J0 h u=none)->(∀ i (hi:i < hs.length),zst turn same hs.length i->(zhx J0 hs[i] at').isSome=true)->(W - at') * (hs.length+1)+(hs.length - same) < n →
  ∃ J' res,zh7 n J hs at' same turn=some (J',res)/\zki J0 J'/\zz6 J0 hs f res:=by
 intro n
 induction n with
 |zero=>intro J at' same turn _ _ _ _ _ _ h;omega
 |succ n ih =>
  intro J at' same turn hJ hf ht hsm hno hin hn
  unfold zh7
  by_cases hlt:same < hs.length
  ·rw[if_pos hlt]
   have hg:hs.getD turn (0,0)=hs[turn]:=by simp[List.getD,ht]
   have hmem:hs[turn]∈hs:=List.getElem_mem ht
   have hst':zcp J hs[turn]=true:=by
    have:=hst _ hmem
    unfold zcp at this ⊢
    rw[hJ.sides];exact this
   obtain⟨l1,l2⟩:=zy1 (f:=at') hst'
   rw[hJ.sides] at l2
   rw[hg]
   cases hL:zhc J hs[turn] at' with
   |mk J1 o =>
    rw[hL] at l1 l2
    simp only at l1 l2
    have hJ1:=hJ.trans l1
    have hnd:=hok hs[turn].1
    cases o with
    |none =>
     refine⟨J1,none,rfl,hJ1,fun u hu=>?_⟩
     by_cases hu2:u < at'
     ·exact hno u hu hu2
     ·exact⟨hs[turn],hmem,zs9 hnd l2.symm u (by omega)⟩
    |some v =>
     obtain⟨p1,p2,p3,p4⟩:=zta hnd l2.symm
     have hvW:=hw _ hmem v p3
     simp only
     by_cases hgt:v > at'
     ·rw[if_pos hgt,if_pos hgt]
      refine ih J1 v (0+1) _ hJ1 (by omega) (by split <;> omega) (by omega) (fun u h1 h2=>?_) (fun i hi hl=>?_) ?_
      ·by_cases hu2:u < at'
       ·exact hno u h1 hu2
       ·exact⟨hs[turn],hmem,p4 u (by omega) h2⟩
      ·have:i=turn:=by
        unfold zst at hl
        split at hl <;> omega
       subst this
       exact p3
      ·have e:W - at'=(W - v)+(v - at'):=by omega
       have:(W - at') * (hs.length+1)=(W - v) * (hs.length+1)+(v - at') * (hs.length+1):=by rw[e,Nat.add_mul]
       have:1 * (hs.length+1)<=(v - at') * (hs.length+1):=Nat.mul_le_mul_right _ (by omega)
       omega
     ·have hv:v=at':=by omega
      subst hv
      rw[if_neg hgt,if_neg hgt]
      refine ih J1 v (same+1) _ hJ1 hf (by split <;> omega) (by omega) hno (fun i hi hl=>?_) (by omega)
      by_cases hi2:i=turn
      ·subst hi2;exact p3
      ·refine hin i hi ?_
       unfold zst at hl ⊢
       split at hl <;> omega
  ·rw[if_neg hlt]
   refine⟨J,some at',rfl,hJ,hf,fun h hh=>?_,hno⟩
   obtain⟨i,hi,rfl⟩:=List.getElem_of_mem hh
   refine hin i hi ?_
   unfold zst
   omega
theorem zuw(W:Nat)(J:zau)(place f n:Nat)(hp:place < 5)(hok:zut J)(hne:J.holds.getD place []≠[])(hst:∀ h∈J.holds.getD place [],zcp J h=true)(hw:∀ h∈J.holds.getD place [],∀ v,(zhx J h v).isSome=true->v < W)(hn:W * ((J.holds.getD place []).length+1)+(J.holds.getD place []).length < n) :
  ∃ J' res,zl6 n J place f=some (J',res)/\zki J J'/\zz6 J (J.holds.getD place []) f res:=by
 have hpos:0 < (J.holds.getD place []).length:=by
  cases hq:J.holds.getD place [] with
  |nil=>exact absurd hq hne
  |cons a l=>simp
 unfold zl6
 rw[if_neg (by omega)]
 refine zux W f _ J hok hst hw n J f 0 0 rfl (Nat.le_refl _) hpos (by omega) (fun u h1 h2=>by omega) (fun i hi hl=>by unfold zst at hl;omega) ?_
 have:(W - f) * ((J.holds.getD place []).length+1)<=W * ((J.holds.getD place []).length+1):=Nat.mul_le_mul_right _ (by omega)
 omega
end Go.Proofs.YteampbddflhngabGreat
