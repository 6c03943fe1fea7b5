import Derived.Test.YteampbddflhngaaGreatW34

namespace Go.Proofs.YteampbddflhngaaGreat
variable {pth:Nat->zao}
def zjz(T:zad)(q:zao):Option Nat:=goT T 0 q
structure Added (T T':zad) (key:zao) (m:Nat) (new:Bool) (room:Nat):Prop where
 inv:∃ pth',zev T' pth'
 qg:T'.qg=T.qg
 qp:T'.qp=T.qp
 is:new=(zjz T key).isNone
 same:new=false->T'=T
 more:new=true->T'.count=T.count+1/\T'.ql.length<=T.ql.length+room
 sem:∀ q,q.length=T.qp->zjz T' q=if q=key then some ((zjz T q).getD m) else zjz T q
theorem zev.grow{T:zad}(h:zev T pth){a v:Nat}(ha:a < T.ql.length)(hv:v < T.qg)(hl:(pth a).length+1 < T.qp)(hn:zax T a v=none) :
  zev (ze6 (zb8 T) a v T.ql.length) (fun c=>if c=T.ql.length then pth a++[v] else pth c)/\(∀ b u,zax (ze6 (zb8 T) a v T.ql.length) b u=if b=a/\u=v then some T.ql.length else zax T b u)/\(ze6 (zb8 T) a v T.ql.length).ql.length=T.ql.length+1/\(ze6 (zb8 T) a v T.ql.length).qg=T.qg/\(ze6 (zb8 T) a v T.ql.length).qp=T.qp/\(ze6 (zb8 T) a v T.ql.length).count=T.count:=by
 have hg:=z19 h.node
 have hln:(zb8 T).ql.length=T.ql.length+1:=by simp[zb8]
 obtain⟨s1,s2⟩:=zx9 hg.1 (a:=a) (v:=v) (d:=T.ql.length) (by rw[hln];omega) (show v < (zb8 T).qg from hv) (by rw[hg.2];exact hn)
 have hd:∀ b u,zax (ze6 (zb8 T) a v T.ql.length) b u=if b=a/\u=v then some T.ql.length else zax T b u:=fun b u=>by rw[s2,hg.2]
 have hl1:(ze6 (zb8 T) a v T.ql.length).ql.length=T.ql.length+1:=by rw[zhl,hln]
 have hw1:(ze6 (zb8 T) a v T.ql.length).qg=T.qg:=by rw[zi9];rfl
 have hd1:(ze6 (zb8 T) a v T.ql.length).qp=T.qp:=by rw[zhw];rfl
 have hc1:(ze6 (zb8 T) a v T.ql.length).count=T.count:=by rw[zum];rfl
 have hp:=h.pos
 have hfresh:∀ c,c < T.ql.length->pth c≠pth a++[v]:=by
  intro c hc e
  have hc0:c≠0:=by rintro rfl;rw[h.root] at e;exact absurd e.symm (by simp)
  obtain⟨a',v',q1,q2,q3⟩:=h.par c hc hc0
  rw[e] at q3
  have e1:=List.append_inj' q3 rfl
  have e2:=h.inj a a' ha (zgw q1).1 e1.1
  subst e2
  simp only[List.cons.injEq,and_true] at e1
  rw[← e1.2] at q1
  rw[q1] at hn;cases hn
 refine⟨⟨by rw[hd1];exact h.dep,by rw[hw1];exact h.wid,by rw[hl1];omega,s1,?_,fun c hc=>?_,fun c d hc hdd e=>?_,fun c u b hcb hlc=>?_,fun b hb hb0=>?_⟩,hd,hl1,hw1,hd1,hc1⟩
 ·rw[if_neg (by omega)];exact h.root
 ·rw[hl1] at hc
  rw[hd1]
  by_cases e:c=T.ql.length
  ·rw[if_pos e];simp;omega
  ·rw[if_neg e];exact h.lev c (by omega)
 ·rw[hl1] at hc hdd
  by_cases e1:c=T.ql.length
  ·by_cases e2:d=T.ql.length
   ·rw[e1,e2]
   ·rw[if_pos e1,if_neg e2] at e
    exact absurd e.symm (hfresh d (by omega))
  ·by_cases e2:d=T.ql.length
   ·rw[if_neg e1,if_pos e2] at e
    exact absurd e (hfresh c (by omega))
   ·rw[if_neg e1,if_neg e2] at e
    exact h.inj c d (by omega) (by omega) e
 ·rw[hd] at hcb
  rw[hd1] at hlc
  rw[hl1]
  by_cases e:c=a/\u=v
  ·rw[if_pos e] at hcb
   simp only[uab] at hcb
   obtain⟨rfl,rfl⟩:=e
   subst hcb
   rw[if_pos rfl,if_neg (by omega)]
   exact⟨by omega,rfl⟩
  ·rw[if_neg e] at hcb
   have hcl:=(zgw hcb).1
   rw[if_neg (by omega)] at hlc
   obtain⟨k1,k2⟩:=h.kid c u b hcb hlc
   rw[if_neg (by omega),if_neg (by omega)]
   exact⟨by omega,k2⟩
 ·rw[hl1] at hb
  by_cases e:b=T.ql.length
  ·refine⟨a,v,by rw[hd,if_pos ⟨rfl,rfl⟩,e],by rw[if_neg (by omega),hd1];exact hl,by rw[if_pos e,if_neg (by omega)]⟩
  ·obtain⟨c,u,q1,q2,q3⟩:=h.par b (by omega) hb0
   have hcl:=(zgw q1).1
   refine⟨c,u,?_,by rw[if_neg (by omega),hd1];exact q2,by rw[if_neg e,if_neg (by omega)];exact q3⟩
   rw[hd,if_neg]
   ·exact q1
   ·rintro⟨rfl,rfl⟩;rw[hn] at q1;cases q1
theorem zev.grow_sem{T T1:zad}{pth:Nat->zao}(h:zev T pth){a v:Nat}(hl:(pth a).length+1 < T.qp)(hn:zax T a v=none)(hd:∀ b u,zax T1 b u=if b=a/\u=v then some T.ql.length else zax T b u):∀(q:zao) (c:Nat),c < T.ql.length->(pth c).length+q.length=T.qp->goT T1 c q=goT T c q
 |[],c,_,_=>rfl
 |u::q,c,hc,he=>by
  simp only[goT,hd]
  simp only[ua7] at he
  by_cases e:c=a/\u=v
  ·obtain⟨rfl,rfl⟩:=e
   rw[if_pos ⟨rfl,rfl⟩,hn]
   simp only
   cases q with
   |nil=>simp at he;omega
   |cons x q =>
    simp only[goT,hd]
    by_cases hca:c=T.ql.length
    ·omega
    ·rw[if_neg (fun q=>hca q.1.symm)]
     cases hx:zax T T.ql.length x with
     |none=>rfl
     |some y=>have:=(zgw hx).1;omega
  ·rw[if_neg e]
   cases hx:zax T c u with
   |none=>rfl
   |some b =>
    simp only
    by_cases hq:(pth c).length+1 < T.qp
    ·obtain⟨k1,k2⟩:=h.kid c u b hx hq
     exact h.grow_sem hl hn hd q b k1 (by rw[k2];simp;omega)
    ·cases q with
     |nil=>rfl
     |cons x q=>simp at he;omega
theorem zev.put_sem{T T1:zad}{pth:Nat->zao}(h:zev T pth){a v m:Nat}(hl:(pth a).length+1=T.qp)(ha:a < T.ql.length)(hn:zax T a v=none)(hd:∀ b u,zax T1 b u=if b=a/\u=v then some m else zax T b u):∀(q:zao) (c:Nat),c < T.ql.length->(pth c).length+q.length=T.qp->goT T1 c q=if pth c++q=pth a++[v] then some m else goT T c q
 |[],c,hc,he=>by have:=h.lev c hc;simp at he;omega
 |u::q,c,hc,he=>by
  simp only[goT,hd]
  simp only[ua7] at he
  by_cases hq:(pth c).length+1 < T.qp
  ·have hca:c≠a:=by rintro rfl;omega
   rw[if_neg (fun q=>hca q.1)]
   cases hx:zax T c u with
   |none =>
    simp only
    rw[if_neg]
    intro e
    have key:∀(k:Nat) (q:zao) (b:Nat),q.length=k->b < T.ql.length->pth c++u::q=pth b->False:=by
     intro k
     induction k with
     |zero =>
      intro q b hk hb e
      have:q=[]:=ubm.1 hk
      subst this
      have hb0:b≠0:=by rintro rfl;rw[h.root] at e;simp at e
      obtain⟨x,y,q1,q2,q3⟩:=h.par b hb hb0
      rw[← e] at q3
      have e1:=List.append_inj' q3 rfl
      have:=h.inj c x hc (zgw q1).1 e1.1
      subst this
      simp only[List.cons.injEq,and_true] at e1
      rw[← e1.2,hx] at q1
      cases q1
     |succ k ih =>
      intro q b hk hb e
      have hb0:b≠0:=by rintro rfl;rw[h.root] at e;simp at e
      obtain⟨x,y,q1,q2,q3⟩:=h.par b hb hb0
      have hqn:q≠[]:=by rintro rfl;simp at hk
      have hsp:q=q.dropLast++[q.getLast hqn]:=(List.dropLast_concat_getLast hqn).symm
      rw[← e,hsp] at q3
      have e3:(pth c++u::q.dropLast)++[q.getLast hqn]=pth x++[y]:=by rw[← q3];simp
      have e1:=List.append_inj' e3 rfl
      exact ih q.dropLast x (by simp[hk]) (zgw q1).1 e1.1
    have hqn:q≠[]:=by rintro rfl;simp at he;omega
    have hsp:q=q.dropLast++[q.getLast hqn]:=(List.dropLast_concat_getLast hqn).symm
    rw[hsp] at e
    have e3:(pth c++u::q.dropLast)++[q.getLast hqn]=pth a++[v]:=by rw[← e];simp
    have e1:=List.append_inj' e3 rfl
    exact key _ q.dropLast a rfl ha e1.1
   |some b =>
    simp only
    obtain⟨k1,k2⟩:=h.kid c u b hx hq
    rw[h.put_sem hl ha hn hd q b k1 (by rw[k2];simp;omega),k2]
    simp
  ·have hq0:q=[]:=ubm.1 (by have:=h.lev c hc;omega)
   subst hq0
   by_cases e:c=a/\u=v
   ·obtain⟨rfl,rfl⟩:=e
    simp[goT]
   ·rw[if_neg e]
    have hne:¬ pth c++[u]=pth a++[v]:=by
     intro e2
     have e1:=List.append_inj' e2 rfl
     exact e ⟨h.inj c a hc ha e1.1,by simpa using e1.2⟩
    rw[if_neg hne]
    cases zax T c u <;> rfl
theorem zev.reach{T:zad}(h:zev T pth):∀(k:Nat) (b:Nat),b < T.ql.length->(pth b).length=k->goT T 0 (pth b)=some b:=by
 intro k
 induction k with
 |zero =>
  intro b hb hk
  have e:pth b=pth 0:=by rw[h.root];exact ubm.1 hk
  have:=h.inj b 0 hb h.pos e
  subst this
  rw[h.root];rfl
 |succ k ih =>
  intro b hb hk
  have hb0:b≠0:=by rintro rfl;rw[h.root] at hk;simp at hk
  obtain⟨x,y,q1,q2,q3⟩:=h.par b hb hb0
  have hx:=ih x (zgw q1).1 (by rw[q3] at hk;simpa using hk)
  rw[q3,zft,hx]
  simp[goT,q1]
theorem zir(m:Nat):∀(r:zao) (T:zad) (pth:Nat->zao) (a:Nat),zev T pth->a < T.ql.length->T.qp<=(pth a).length+r.length->(∀ v∈r,v < T.qg)->Added T (zc7 m T a (pth a).length r).1 (pth a++r.take (T.qp - (pth a).length)) m (zc7 m T a (pth a).length r).2 (T.qp - 1 - (pth a).length)
 |[],T,pth,a,h,ha,hl,_=>by have:=h.lev a ha;simp at hl;omega
 |v::r,T,pth,a,h,ha,hl,hf=>by
  have hlev:=h.lev a ha
  have hv:v < T.qg:=hf v (by simp)
  have hreach:=h.reach _ a ha rfl
  simp only[ua7] at hl
  unfold zc7
  by_cases hd:(pth a).length+1 ≥ T.qp
  ·rw[if_pos hd]
   have hd1:T.qp - (pth a).length=1:=by omega
   rw[hd1]
   have hkey:zjz T (pth a++(v::r).take 1)=zax T a v:=by
    unfold zjz
    rw[zft,hreach]
    simp only[ucl,List.take_zero,Option.bind_some,goT]
    cases zax T a v <;> rfl
   unfold zp3
   cases hx:zax T a v with
   |some b =>
    refine⟨⟨pth,h⟩,rfl,rfl,by rw[hkey,hx];rfl,fun _=>rfl,fun q=>by simp at q,fun q hq=>?_⟩
    by_cases e:q=pth a++(v::r).take 1
    ·subst e
     rw[if_pos rfl,hkey,hx];rfl
    ·rw[if_neg e]
   |none =>
    have hps:=zx9 h.node (d:=m) ha hv hx
    have hgo:∀ q c,goT { ze6 T a v m with count:=(ze6 T a v m).count+1 } c q=goT (ze6 T a v m) c q:=by
     intro q
     induction q with
     |nil=>intro c;rfl
     |cons x q ih =>
      intro c
      simp only[goT]
      have:zax { ze6 T a v m with count:=(ze6 T a v m).count+1 } c x=zax (ze6 T a v m) c x:=rfl
      rw[this]
      cases zax (ze6 T a v m) c x with
      |none=>rfl
      |some b=>exact ih b
    refine⟨⟨pth,?_⟩,zi9 _ _ _ _,zhw _ _ _ _,by rw[hkey,hx];rfl,fun q=>by simp at q,fun _=>⟨by simp[zum],by simp[zhl]⟩,fun q hq=>?_⟩
    ·have hdd:∀ b u,zax { ze6 T a v m with count:=(ze6 T a v m).count+1 } b u=if b=a/\u=v then some m else zax T b u:=hps.2
     refine⟨by show 1<=(ze6 T a v m).qp/\(ze6 T a v m).qp<=3;rw[zhw];exact h.dep,by show 1<=(ze6 T a v m).qg;rw[zi9];exact h.wid,by show 0 < (ze6 T a v m).ql.length;rw[zhl];exact h.pos,hps.1,h.root,fun c hc=>by show _ < (ze6 T a v m).qp;rw[zhw];exact h.lev c (by simpa [zhl] using hc),fun c d hc hdl e=>h.inj c d (by simpa [zhl] using hc) (by simpa [zhl] using hdl) e,fun c u b hcb hlc=>?_,fun b hb hb0=>?_⟩
     ·rw[hdd] at hcb
      have hlc':(pth c).length+1 < T.qp:=by simpa [zhw] using hlc
      by_cases e:c=a/\u=v
      ·obtain⟨rfl,rfl⟩:=e;omega
      ·rw[if_neg e] at hcb
       obtain⟨k1,k2⟩:=h.kid c u b hcb hlc'
       exact⟨by simpa [zhl] using k1,k2⟩
     ·obtain⟨c,u,q1,q2,q3⟩:=h.par b (by simpa [zhl] using hb) hb0
      refine⟨c,u,?_,by simpa [zhw] using q2,q3⟩
      rw[hdd,if_neg]
      ·exact q1
      ·rintro⟨rfl,rfl⟩;rw[hx] at q1;cases q1
    ·unfold zjz
     rw[hgo,h.put_sem (by omega) ha hx hps.2 q 0 h.pos (by rw[h.root];simpa using hq),h.root]
     have htk:(v::r).take 1=[v]:=by simp
     rw[htk,List.nil_append]
     by_cases e:q=pth a++[v]
     ·rw[if_pos e,if_pos e]
      have:goT T 0 q=none:=by rw[e];have:=hkey;unfold zjz at this;rw[htk] at this;rw[this,hx]
      rw[this];rfl
     ·rw[if_neg e,if_neg e]
  ·rw[if_neg hd]
   obtain⟨dd,hdd⟩:∃ dd,T.qp - (pth a).length=dd+1:=⟨T.qp - (pth a).length - 1,by omega⟩
   have hkk:∀ p:zao,p=pth a++[v]->p++r.take (T.qp - p.length)=pth a++(v::r).take (T.qp - (pth a).length):=by
    rintro p rfl
    rw[hdd,ucl]
    have:T.qp - (pth a++[v]).length=dd:=by simp;omega
    rw[this];simp
   unfold zcq
   cases hx:zax T a v with
   |some b =>
    obtain⟨k1,k2⟩:=h.kid a v b hx (by omega)
    have ih:=zir m r T pth b h k1 (by rw[k2];simp;omega) (fun x hx=>hf x (by simp[hx]))
    rw[hkk _ k2] at ih
    have e:(pth b).length=(pth a).length+1:=by rw[k2];simp
    rw[e] at ih
    exact⟨ih.inv,ih.qg,ih.qp,ih.is,ih.same,fun q=>⟨(ih.more q).1,by have:=(ih.more q).2;simp only at this ⊢;omega⟩,ih.sem⟩
   |none =>
    obtain⟨g1,g2,g3,g4,g5,g6⟩:=h.grow ha hv (by omega) hx
    have ih:=zir m r (ze6 (zb8 T) a v T.ql.length) _ T.ql.length g1 (by rw[g3];omega) (by rw[if_pos rfl,g5];simp;omega) (fun x hx=>by rw[g4];exact hf x (by simp[hx]))
    rw[if_pos rfl,g5,hkk _ rfl] at ih
    have e:(pth a++[v]).length=(pth a).length+1:=by simp
    rw[e] at ih
    have hsem:∀ q:zao,q.length=T.qp->zjz (ze6 (zb8 T) a v T.ql.length) q=zjz T q:=fun q hq=>h.grow_sem (by omega) hx g2 q 0 h.pos (by rw[h.root];simpa using hq)
    have hklen:(pth a++(v::r).take (T.qp - (pth a).length)).length=T.qp:=by simp;omega
    have hnone:zjz T (pth a++(v::r).take (T.qp - (pth a).length))=none:=by
     unfold zjz
     rw[zft,hreach,hdd,ucl]
     simp[goT,hx]
    have his:=ih.is
    rw[hsem _ hklen,hnone] at his
    refine⟨ih.inv,by rw[ih.qg,g4],by rw[ih.qp,g5],by rw[hnone];exact his,fun q=>?_,fun q=>⟨by rw[(ih.more q).1,g6],by have:=(ih.more q).2;rw[g3] at this;simp only at this ⊢;omega⟩,fun q hq=>?_⟩
    ·rw[his] at q;cases q
    ·rw[ih.sem q (by rw[g5];exact hq),hsem q hq]
end Go.Proofs.YteampbddflhngaaGreat
namespace Go.Proofs.YteampbddflhngaaGreat
variable {T:zad}{pth:Nat->zao}
theorem z02(h:zev T pth)(row:zao)(m:Nat)(hl:row.length=3)(hf:zn5 T row=true):Added T (zfo T row m).1 (row.take T.qp) m (zfo T row m).2 (T.qp - 1):=by
 have:=zir m row T pth 0 h h.pos (by rw[h.root];simp[hl];exact h.dep.2) (fun v hv=>by simp only[zn5,List.all_eq_true,decide_eq_true_eq] at hf;exact hf v hv)
 rw[h.root] at this
 unfold zfo
 rw[if_pos hf]
 simpa using this
theorem zqi(w d:Nat):(zfv w d).qg=za4 w:=rfl
theorem zgq(w d:Nat):(zfv w d).qp=zby d:=rfl
theorem zec(d:Nat):1<=zby d/\zby d<=3:=by unfold zby;by_cases h1:d < 1 <;> by_cases h2:d > 3 <;> simp[h1,h2] <;> omega
theorem zt8(w d a v:Nat):zax (zfv w d) a v=none:=by
 rw[zgn]
 refine if_neg fun q=>?_
 have h0:a=0:=by have:=q.1;simp[zfv,zb8] at this;exact this
 subst h0
 exact(zg6.new (za4 w)).2 v q.2
theorem z6h(w d:Nat):zev (zfv w d) (fun _=>[]):=by
 refine⟨zec d,by show 1<=za4 w;unfold za4;split <;> omega,by simp[zfv,zb8],?_,rfl,fun a _=>by show 0 < zby d;exact(zec d).1,fun a b ha hb _=>?_,(fun a v b hd=>by rw[zt8] at hd;exact absurd hd (by simp)),fun b hb hb0=>?_⟩
 ·intro a ha
  have h0:a=0:=by simp[zfv,zb8] at ha;exact ha
  subst h0
  exact(zg6.new (za4 w)).1
 ·simp[zfv,zb8] at ha hb;omega
 ·simp[zfv,zb8] at hb;omega
theorem zne(w d:Nat)(q:zao)(hq:q≠[]):zjz (zfv w d) q=none:=by
 cases q with
 |nil=>exact absurd rfl hq
 |cons v q=>simp[zjz,goT,zt8]
theorem zoj(T:zad):∀(r:zao) (a level:Nat),level < T.qp->T.qp<=level+r.length->zbe T a level r=goT T a (r.take (T.qp - level))
 |[],a,level,h1,h2=>by simp at h2;omega
 |v::r,a,level,h1,h2=>by
  obtain⟨k,hk⟩:∃ k,T.qp - level=k+1:=⟨T.qp - level - 1,by omega⟩
  unfold zbe
  rw[hk,ucl]
  simp only[goT]
  cases hd:zax T a v with
  |none=>rfl
  |some b =>
   simp only
   by_cases e:level+1 ≥ T.qp
   ·rw[if_pos e]
    have:k=0:=by omega
    subst this
    simp[goT]
   ·rw[if_neg e,zoj T r b (level+1) (by omega) (by simp at h2;omega)]
    have:T.qp - (level+1)=k:=by omega
    rw[this]
theorem z2w(h:zev T pth)(row:zao)(hl:row.length=3):zdt T row=zjz T (row.take T.qp):=by
 have:=zoj T row 0 0 (by have:=h.dep.1;omega) (by rw[hl];have:=h.dep.2;omega)
 simpa [zdt,zjz] using this
def zhu(T:zad):Nat->Nat->Nat->List zao
 |0,_,_=>[[]]
 |d+1,a,f=>(List.range' f (T.qg - f)).flatMap fun v=>match zax T a v with
  |none=>[]
  |some b=>(zhu T d b 0).map (v::·)
theorem zzq{d a f:Nat}(h:∀ u,f<=u->zax T a u=none):zhu T (d+1) a f=[]:=by
 simp only[zhu,List.flatMap_eq_nil_iff,List.mem_range'_1]
 intro v hv
 rw[h v hv.1]
theorem zzr{d a v b:Nat}:∀(n f:Nat),v - f=n->f<=v->v < T.qg->zax T a v=some b->(∀ u,f<=u->u < v->zax T a u=none)->zhu T (d+1) a f=(zhu T d b 0).map (v::·)++zhu T (d+1) a (v+1):=by
 intro n
 induction n with
 |zero =>
  intro f hn hf hw hb _
  have:f=v:=by omega
  subst this
  obtain⟨k,hk⟩:∃ k,T.qg - f=k+1:=⟨T.qg - f - 1,by omega⟩
  have hk2:T.qg - (f+1)=k:=by omega
  simp only[zhu,hk,hk2,List.range'_succ,ua5,hb]
 |succ n ih =>
  intro f hn hf hw hb hu
  obtain⟨k,hk⟩:∃ k,T.qg - f=k+1:=⟨T.qg - f - 1,by omega⟩
  have hk2:T.qg - (f+1)=k:=by omega
  rw[← ih (f+1) (by omega) (by omega) hw hb (fun u h1 h2=>hu u (by omega) h2)]
  simp only[zhu,hk,hk2,List.range'_succ,ua5,hu f (uaa _) (by omega),List.nil_append]
theorem zyd(row:zao)(l v:Nat)(k:zao)(hl:l < row.length):(row.set l v).take (l+1)++k=row.take l++v::k:=by
 have:(row.set l v).take (l+1)=row.take l++[v]:=by
  rw[uae (by simpa using hl),List.take_set_of_le (uaa _)]
  simp
 rw[this];simp
theorem zwu(row:zao)(l v j:Nat)(hl:l < j):(row.set l v).drop j=row.drop j:=by
 rw[List.drop_set,if_pos hl]
theorem z0u(hn:zgr T)(hd3:T.qp<=3):∀(n a level f:Nat) (row:zao) (rows:List zao),level < T.qp->row.length=3->f<=T.qg->(T.qg - f)+1+(T.qp - level - 1) * (T.qg+1)<=n →
  ∃ row',zdh T n a level f row rows=some (row',rows++(zhu T (T.qp - level) a f).map fun k=>row.take level++k++row.drop T.qp)/\row'.length=3/\row'.take level=row.take level/\row'.drop T.qp=row.drop T.qp:=by
 intro n
 induction n with
 |zero=>intro a level f row rows h1 h2 h3 h4;omega
 |succ n ih =>
  intro a level f row rows h1 h2 h3 h4
  obtain⟨d,hd⟩:∃ d,T.qp - level=d+1:=⟨T.qp - level - 1,by omega⟩
  unfold zdh
  cases hl:zcn T a f with
  |none =>
   refine⟨row,?_,h2,rfl,rfl⟩
   rw[hd,zzq (ztx hn hl)]
   simp
  |some v =>
   obtain⟨q1,q2,q3,q4⟩:=zty hn hl
   obtain⟨b,hb⟩:=ubf.1 q3
   have hkeys:=zzr (d:=d) _ f rfl q1 q2 hb q4
   simp only
   have hset2:(row.set level v).length=3:=by simpa using h2
   have hlr:level < row.length:=by omega
   have hdrop:(row.set level v).drop T.qp=row.drop T.qp:=zwu row level v T.qp h1
   have htake:(row.set level v).take level=row.take level:=by rw[List.take_set_of_le (uaa _)]
   have hd1:T.qp - level - 1=d:=by omega
   by_cases e:level+1 ≥ T.qp
   ·rw[if_pos e]
    have hd0:d=0:=by omega
    subst hd0
    obtain⟨row',r1,r2,r3,r4⟩:=ih a level (v+1) (row.set level v) (rows++[row.set level v]) h1 hset2 (by omega) (by rw[hd1] at h4 ⊢;omega)
    refine⟨row',?_,r2,by rw[r3,htake],by rw[r4,hdrop]⟩
    rw[r1,hd,hkeys]
    simp only[zhu,ubu,List.map_nil,List.cons_append,List.nil_append,htake,hdrop,uba,uab,uak,true_and]
    congr 2
    have:=zyd row level v (row.drop T.qp) hlr
    have e2:T.qp=level+1:=by omega
    rw[← hdrop,e2] at this ⊢
    rw[ube] at this
    exact this
   ·rw[if_neg e,if_neg (by omega),hb]
    simp only[uas]
    have hm:d * (T.qg+1)=(d - 1) * (T.qg+1)+(T.qg+1):=by
     obtain⟨j,rfl⟩:∃ j,d=j+1:=⟨d - 1,by omega⟩
     simp[Nat.succ_mul]
    have hd2:T.qp - (level+1) - 1=d - 1:=by omega
    have hd3':T.qp - (level+1)=d:=by omega
    obtain⟨row1,r1,r2,r3,r4⟩:=ih b (level+1) 0 (row.set level v) rows (by omega) hset2 (by omega) (by rw[hd1] at h4;rw[hd2];omega)
    rw[r1]
    simp only
    obtain⟨row',s1,s2,s3,s4⟩:=ih a level (v+1) row1 (rows++(zhu T (T.qp - (level+1)) b 0).map fun k=>(row.set level v).take (level+1)++k++(row.set level v).drop T.qp) h1 r2 (by omega) (by rw[hd1] at h4 ⊢;omega)
    have t1:row1.take level=row.take level:=by
     have:=congrArg (List.take level) r3
     rwa [List.take_take,List.take_take,ubv (by omega),htake] at this
    refine⟨row',?_,s2,by rw[s3,t1],by rw[s4,r4,hdrop]⟩
    rw[s1,hd,hkeys,hd3',t1,r4,hdrop,ua8,List.map_map,← uba]
    congr 3
    refine congrArg (rows++·) (ub2 fun k _=>?_)
    simp only[Function.comp]
    rw[zyd row level v k hlr]
def pad(k:zao)(d:Nat):zao:=k++([0,0,0]:zao).drop d
theorem z0f(h:zev T pth)(fuel:Nat)(hf:3 * (T.qg+1)<=fuel):zr3 fuel T=some ((zhu T T.qp 0 0).map fun k=>pad k T.qp):=by
 have hd:=h.dep
 have hm:T.qg+1+(T.qp - 1) * (T.qg+1)<=3 * (T.qg+1):=by
  have:(T.qp - 1) * (T.qg+1)<=2 * (T.qg+1):=uc2 _ (by omega)
  omega
 obtain⟨row',h1,_,_,_⟩:=z0u h.node hd.2 fuel 0 0 0 [0,0,0] [] (by omega) rfl (by omega) (by simp;omega)
 unfold zr3
 rw[h1]
 simp[pad]
theorem zod(T:zad):∀(d a f:Nat) (k:zao),k∈zhu T d a f↔k.length=d/\(goT T a k).isSome=true/\(0 < d->f<=k.headD 0)
 |0,a,f,k=>by
  simp only[zhu,ua3]
  constructor
  ·rintro rfl;simp[goT]
  ·rintro⟨h,_⟩;exact ubm.1 h
 |d+1,a,f,k=>by
  simp only[zhu,ubo,List.mem_range'_1]
  constructor
  ·rintro⟨v,hv,hk⟩
   cases hd:zax T a v with
   |none=>rw[hd] at hk;simp at hk
   |some b =>
    rw[hd] at hk
    simp only[uai] at hk
    obtain⟨k',hk',rfl⟩:=hk
    obtain⟨h1,h2,_⟩:=(zod T d b 0 k').1 hk'
    refine⟨by simp[h1],?_,fun _=>by simpa using hv.1⟩
    simp only[goT,hd]
    exact h2
  ·rintro⟨h1,h2,h3⟩
   cases k with
   |nil=>simp at h1
   |cons v k =>
    simp only[goT] at h2
    simp only[List.headD_cons] at h3
    cases hd:zax T a v with
    |none=>rw[hd] at h2;simp at h2
    |some b =>
     rw[hd] at h2
     have hw:=(zgw hd).2
     have:=h3 (by omega)
     refine⟨v,by omega,?_⟩
     rw[hd]
     simp only[uai]
     exact⟨k,(zod T d b 0 k).2 ⟨by simpa using h1,h2,fun _=>uaj _⟩,rfl⟩
end Go.Proofs.YteampbddflhngaaGreat
namespace Go.Proofs.YteampbddflhngaaGreat
def ltR:zao->zao->Prop
 |a::x,b::y=>a < b∨a=b/\ltR x y
 |_,_=>False
theorem zl9:∀ x:zao,¬ ltR x x
 |[]=>id
 |a::x=>by
  rintro(h|⟨_,h⟩)
  ·omega
  ·exact zl9 x h
theorem ziz(T:zad):∀(d a f:Nat),(zhu T d a f).Pairwise ltR
 |0,a,f=>by simp[zhu]
 |d+1,a,f=>by
  simp only[zhu]
  rw[List.pairwise_flatMap]
  refine⟨fun v _=>?_,?_⟩
  ·cases zax T a v with
   |none=>exact List.Pairwise.nil
   |some b =>
    simp only
    rw[List.pairwise_map]
    exact(ziz T d b 0).imp fun h=>Or.inr ⟨rfl,h⟩
  ·refine List.Pairwise.imp ?_ (List.pairwise_lt_range' (s:=f) (n:=T.qg - f))
   intro v u hvu x hx y hy
   cases h1:zax T a v with
   |none=>rw[h1] at hx;simp at hx
   |some b =>
    rw[h1] at hx
    cases h2:zax T a u with
    |none=>rw[h2] at hy;simp at hy
    |some c =>
     rw[h2] at hy
     simp only[uai] at hx hy
     obtain⟨x',_,rfl⟩:=hx
     obtain⟨y',_,rfl⟩:=hy
     exact Or.inl hvu
theorem zkf(T:zad)(d a f:Nat):(zhu T d a f).Nodup:=by
 refine(ziz T d a f).imp ?_
 rintro x y h rfl
 exact zl9 x h
theorem zol:∀ {l1 l2:List zao},l1.Nodup->(∀ x∈l1,x∈l2)->l1.length<=l2.length
 |[],l2,_,_=>by simp
 |a::l1,l2,hn,hs=>by
  have ha:=hs a (by simp)
  have h1:=zol (l1:=l1) (l2:=l2.erase a) (ubk.1 hn).2 (fun x hx=>by
   have hne:x≠a:=by rintro rfl;exact(ubk.1 hn).1 hx
   exact(uci hne).2 (hs x (by simp[hx])))
  rw[ucd ha] at h1
  have:=ub9 ha
  simp;omega
theorem z6j{l1 l2:List zao}(h1:l1.Nodup)(h2:l2.Nodup)(h:∀ x,x∈l1↔x∈l2):l1.length=l2.length :=
 Nat.le_antisymm (zol h1 fun x hx=>(h x).1 hx) (zol h2 fun x hx=>(h x).2 hx)
def keysT(T:zad):List zao:=zhu T T.qp 0 0
theorem zbp(T:zad)(k:zao):k∈keysT T↔k.length=T.qp/\(zjz T k).isSome=true:=by
 unfold keysT
 rw[zod]
 exact⟨fun h=>⟨h.1,h.2.1⟩,fun h=>⟨h.1,h.2,fun _=>uaj _⟩⟩
structure zd8 (T:zad):Prop where
 inv:∃ pth,zev T pth
 cnt:(keysT T).length=T.count
 room:T.ql.length<=1+2 * T.count
theorem zd8.new(w d:Nat):zd8 (zfv w d):=by
 refine⟨⟨_,z6h w d⟩,?_,by simp[zfv,zb8]⟩
 have:keysT (zfv w d)=[]:=by
  rw[List.eq_nil_iff_forall_not_mem]
  intro k hk
  obtain⟨h1,h2⟩:=(zbp _ k).1 hk
  rw[zne w d k (by rintro rfl;have:=(zec d).1;rw[zgq] at h1;simp at h1;omega)] at h2
  cases h2
 rw[this];rfl
theorem zlp{T:zad}:∀(k:zao) (a:Nat),(goT T a k).isSome=true->∀ v∈k,v < T.qg
 |[],_,_,v,hv=>by cases hv
 |u::k,a,h,v,hv=>by
  simp only[goT] at h
  cases hd:zax T a u with
  |none=>rw[hd] at h;simp at h
  |some b =>
   rw[hd] at h
   rcases uag.1 hv with rfl|hv
   ·exact(zgw hd).2
   ·exact zlp k b h v hv
theorem zd8.add{T:zad}(h:zd8 T)(row:zao)(m:Nat)(hl:row.length=3)(hf:zn5 T row=true) :
  zd8 (zfo T row m).1/\(zfo T row m).1.qg=T.qg/\(zfo T row m).1.qp=T.qp/\(zfo T row m).2=(zjz T (row.take T.qp)).isNone/\((zfo T row m).2=false->(zfo T row m).1=T)/\((zfo T row m).2=true->(zfo T row m).1.count=T.count+1)/\∀ q,q.length=T.qp->zjz (zfo T row m).1 q=if q=row.take T.qp then some ((zjz T q).getD m) else zjz T q:=by
 obtain⟨pth,hi⟩:=h.inv
 have ha:=z02 hi row m hl hf
 have hd:=hi.dep
 refine⟨⟨ha.inv,?_,?_⟩,ha.qg,ha.qp,ha.is,ha.same,fun q=>(ha.more q).1,ha.sem⟩
 ·cases hb:(zfo T row m).2 with
  |false=>rw[ha.same hb];exact h.cnt
  |true =>
   rw[(ha.more hb).1,← h.cnt]
   have his:=ha.is
   rw[hb] at his
   have hkl:(row.take T.qp).length=T.qp:=by rw[ua2,hl];omega
   have hnot:row.take T.qp∉keysT T:=fun hm=>by
    have:=((zbp T _).1 hm).2
    rw[← Option.not_isNone,← his] at this
    cases this
   have:=z6j (l1:=keysT (zfo T row m).1) (l2:=row.take T.qp::keysT T) (zkf _ _ _ _) (ubk.2 ⟨hnot,zkf _ _ _ _⟩) (fun k=>by
    rw[zbp,ha.qp,uag,zbp]
    by_cases hk:k.length=T.qp
    ·rw[ha.sem k hk]
     by_cases e:k=row.take T.qp
     ·simp[e,hkl]
     ·simp[e,hk]
    ·constructor
     ·intro q;exact absurd q.1 hk
     ·rintro(q|q)
      ·rw[q] at hk;exact absurd hkl hk
      ·exact absurd q.1 hk)
   simpa using this
 ·cases hb:(zfo T row m).2 with
  |false=>rw[ha.same hb];exact h.room
  |true =>
   have:=ha.more hb
   have:=h.room
   omega
theorem zd8.rows{T:zad}(h:zd8 T)(fuel:Nat)(hf:3 * (T.qg+1)<=fuel):zr3 fuel T=some ((keysT T).map fun k=>pad k T.qp):=by
 obtain⟨pth,hi⟩:=h.inv
 exact z0f hi fuel hf
theorem zd8.rowsG{T:zad}(h:zd8 T)(fuel:Nat)(hf:3 * (T.qg+1)<=fuel)(hc:T.count<=1048576):rowsG fuel T=some ((keysT T).map fun k=>pad k T.qp):=by
 unfold Go.Proofs.YteampbddflhngaaGreat.rowsG
 rw[h.rows fuel hf]
 simp[h.cnt,hc]
theorem zd8.okT{T:zad}(h:zd8 T)(hc:T.count<=10000000):okT T=true:=by
 have:=h.room
 simp only[Go.Proofs.YteampbddflhngaaGreat.okT,ubb,decide_eq_true_eq]
 omega
theorem zd8.mark{T:zad}(h:zd8 T)(row:zao)(hl:row.length=3):zdt T row=zjz T (row.take T.qp):=by
 obtain⟨pth,hi⟩:=h.inv
 exact z2w hi row hl
def zh3(J:zav)(h:Nat × Nat)(v:Nat):Option Nat:=zax (J.qy.getD h.1 zej.zero).rows ((J.qy.getD h.1 zej.zero).ql.getD h.2 0) v
def zvg(J:zav):Prop:=∀ i,zgr (J.qy.getD i zej.zero).rows
def zks(J J':zav):Prop:=J'={ J with jf:=J'.jf }
theorem zks.trans{a b c:zav}(h:zks a b)(k:zks b c):zks a c:=by
 unfold zks at *
 rw[h] at k
 exact k
theorem zks.qy{a b:zav}(h:zks a b):b.qy=a.qy:=by rw[h]
theorem zzu{J:zav}{h:Nat × Nat}{f:Nat}(hs:zcr J h=true):zks J (zhj J h f).1/\(zhj J h f).2=zcn (J.qy.getD h.1 zej.zero).rows ((J.qy.getD h.1 zej.zero).ql.getD h.2 0) f:=by
 unfold zhj
 rw[if_pos hs]
 exact⟨rfl,rfl⟩
def ztk(turn same len i:Nat):Prop:=i < turn/\turn<=i+same∨turn<=i/\turn+len<=i+same
def z0z(J:zav)(hs:List (Nat × Nat))(f:Nat):Option Nat->Prop
 |none=>∀ u,f<=u->∃ h∈hs,zh3 J h u=none
 |some v=>f<=v/\(∀ h∈hs,(zh3 J h v).isSome=true)/\∀ u,f<=u->u < v->∃ h∈hs,zh3 J h u=none
theorem zzi{J J':zav}(h:zks J J')(x:Nat × Nat)(v:Nat):zh3 J' x v=zh3 J x v:=by unfold zh3;rw[h.qy]
theorem zvk(W f:Nat)(hs:List (Nat × Nat))(J0:zav)(hok:zvg J0)(hst:∀ h∈hs,zcr J0 h=true)(hw:∀ h∈hs,∀ v,(zh3 J0 h v).isSome=true->v < W) :
  ∀(n:Nat) (J:zav) (at' same turn:Nat),zks J0 J->f<=at'->turn < hs.length->same<=hs.length->(∀ u,f<=u->u < at'->∃ h∈hs,zh3 J0 h u=none)->(∀ i (hi:i < hs.length),ztk turn same hs.length i->(zh3 J0 hs[i] at').isSome=true)->(W - at') * (hs.length+1)+(hs.length - same) < n →
  ∃ J' res,zid n J hs at' same turn=some (J',res)/\zks J0 J'/\z0z J0 hs f res:=by
 intro n
 induction n with
 |zero=>intro J at' same turn _ _ _ _ _ _ h;omega
 |succ n ih =>
  intro J at' same turn hJ hf ht hsm hno hin hn
  unfold zid
  by_cases hlt:same < hs.length
  ·rw[if_pos hlt]
   have hg:hs.getD turn (0,0)=hs[turn]:=by simp[List.getD,ht]
   have hmem:hs[turn]∈hs:=uad ht
   have hst':zcr J hs[turn]=true:=by
    have:=hst _ hmem
    unfold zcr at this ⊢
    rw[hJ.qy];exact this
   obtain⟨l1,l2⟩:=zzu (f:=at') hst'
   rw[hJ.qy] at l2
   rw[hg]
   cases hL:zhj J hs[turn] at' with
   |mk J1 o =>
    rw[hL] at l1 l2
    simp only at l1 l2
    have hJ1:=hJ.trans l1
    have hnd:=hok hs[turn].1
    cases o with
    |none =>
     refine⟨J1,none,rfl,hJ1,fun u hu=>?_⟩
     by_cases hu2:u < at'
     ·exact hno u hu hu2
     ·exact⟨hs[turn],hmem,ztx hnd l2.symm u (by omega)⟩
    |some v =>
     obtain⟨p1,p2,p3,p4⟩:=zty hnd l2.symm
     have hvW:=hw _ hmem v p3
     simp only
     by_cases hgt:v > at'
     ·rw[if_pos hgt,if_pos hgt]
      refine ih J1 v (0+1) _ hJ1 (by omega) (by split <;> omega) (by omega) (fun u h1 h2=>?_) (fun i hi hl=>?_) ?_
      ·by_cases hu2:u < at'
       ·exact hno u h1 hu2
       ·exact⟨hs[turn],hmem,p4 u (by omega) h2⟩
      ·have:i=turn:=by
        unfold ztk at hl
        split at hl <;> omega
       subst this
       exact p3
      ·have e:W - at'=(W - v)+(v - at'):=by omega
       have:(W - at') * (hs.length+1)=(W - v) * (hs.length+1)+(v - at') * (hs.length+1):=by rw[e,Nat.add_mul]
       have:1 * (hs.length+1)<=(v - at') * (hs.length+1):=uc2 _ (by omega)
       omega
     ·have hv:v=at':=by omega
      subst hv
      rw[if_neg hgt,if_neg hgt]
      refine ih J1 v (same+1) _ hJ1 hf (by split <;> omega) (by omega) hno (fun i hi hl=>?_) (by omega)
      by_cases hi2:i=turn
      ·subst hi2;exact p3
      ·refine hin i hi ?_
       unfold ztk at hl ⊢
       split at hl <;> omega
  ·rw[if_neg hlt]
   refine⟨J,some at',rfl,hJ,hf,fun h hh=>?_,hno⟩
   obtain⟨i,hi,rfl⟩:=uau hh
   refine hin i hi ?_
   unfold ztk
   omega
theorem zvj(W:Nat)(J:zav)(place f n:Nat)(hp:place < 5)(hok:zvg J)(hne:J.ja.getD place []≠[])(hst:∀ h∈J.ja.getD place [],zcr J h=true)(hw:∀ h∈J.ja.getD place [],∀ v,(zh3 J h v).isSome=true->v < W)(hn:W * ((J.ja.getD place []).length+1)+(J.ja.getD place []).length < n) :
  ∃ J' res,zml n J place f=some (J',res)/\zks J J'/\z0z J (J.ja.getD place []) f res:=by
 have hpos:0 < (J.ja.getD place []).length:=by
  cases hq:J.ja.getD place [] with
  |nil=>exact absurd hq hne
  |cons a l=>simp
 unfold zml
 rw[if_neg (by omega)]
 refine zvk W f _ J hok hst hw n J f 0 0 rfl (uaa _) hpos (by omega) (fun u h1 h2=>by omega) (fun i hi hl=>by unfold ztk at hl;omega) ?_
 have:(W - f) * ((J.ja.getD place []).length+1)<=W * ((J.ja.getD place []).length+1):=uc2 _ (by omega)
 omega
end Go.Proofs.YteampbddflhngaaGreat
namespace Go.Proofs.YteampbddflhngaaGreat
variable {jd:Int}
def zcf(l:zak)(d:Nat):List Nat:=(List.range d).filter (zde l)
def zb6(l:zak)(vals:List Nat)(d:Nat):zao:=(zcf l d).map fun p=>vals.getD p 0
theorem zeo(l:zak)(d:Nat):zcf l (d+1)=if zde l d then zcf l d++[d] else zcf l d:=by
 unfold zcf
 rw[List.range_succ,List.filter_append]
 by_cases h:zde l d <;> simp[h]
theorem zh1(l:zak)(d p:Nat):p∈zcf l d↔p < d/\zde l p=true:=by simp[zcf]
theorem zr8(l:zak){a b:Nat}(h:a<=b):zcf l a <+: zcf l b:=by
 induction h with
 |refl=>exact List.prefix_rfl
 |step h ih =>
  rw[zeo]
  split
  ·exact ih.trans (List.prefix_append _ _)
  ·exact ih
theorem zoe(l:zak)(p:Nat):zbq l p=if zde l p then some (zcf l p).length else none:=by
 unfold zbq zcf
 rw[List.countP_eq_length_filter]
theorem zeb(l:zak):zbb l=(zcf l 5).length:=by
 unfold zbb zcf
 rw[List.countP_eq_length_filter]
theorem zg0(l:zak)(vals:List Nat)(d:Nat):(zb6 l vals d).length=(zcf l d).length:=by simp[zb6]
theorem zia(l:zak){x y:List Nat}{d:Nat}(h:∀ p,p < d->zde l p=true->x.getD p 0=y.getD p 0):zb6 l x d=zb6 l y d:=by
 unfold zb6
 refine ub2 fun p hp=>?_
 have:=(zh1 l d p).1 hp
 exact h p this.1 this.2
theorem zi7(l:zak)(vals:List Nat){a b:Nat}(h:a<=b):zb6 l vals a=(zb6 l vals b).take (zcf l a).length:=by
 obtain⟨t,ht⟩:=zr8 l h
 unfold zb6
 rw[← ht]
 simp
theorem zqr(l:zak)(vals:List Nat)(d v:Nat)(hd:d < vals.length):zb6 l (vals.set d v) (d+1)=if zde l d then zb6 l vals d++[v] else zb6 l vals d:=by
 have h0:(zcf l d).map (fun p=>(vals.set d v).getD p 0)=(zcf l d).map fun p=>vals.getD p 0:=by
  refine ub2 fun p hp=>?_
  have:=(zh1 l d p).1 hp
  rw[zam,if_neg (by omega)]
 unfold zb6
 rw[zeo]
 split
 ·rw[ua8,h0]
  simp[hd]
 ·exact h0
theorem zqj:∀ {l1 l2:List Nat},l1.Nodup->(∀ x∈l1,x∈l2)->l1.length<=l2.length
 |[],l2,_,_=>by simp
 |a::l1,l2,hn,hs=>by
  have ha:=hs a (by simp)
  have h1:=zqj (l1:=l1) (l2:=l2.erase a) (ubk.1 hn).2 (fun x hx=>by
   have hne:x≠a:=by rintro rfl;exact(ubk.1 hn).1 hx
   exact(uci hne).2 (hs x (by simp[hx])))
  rw[ucd ha] at h1
  have:=ub9 ha
  simp;omega
theorem zfg(l:zak)(p:Nat):zde l p=true↔∃ t∈l.qf,t.var=true/\t.num=p:=by
 unfold zde
 rw[ub4]
 constructor
 ·rintro⟨t,h1,h2⟩
  simp only[ubb,beq_iff_eq] at h2
  exact⟨t,h1,h2.1,h2.2⟩
 ·rintro⟨t,h1,h2,h3⟩
  exact⟨t,h1,by simp[h2,h3]⟩
theorem zko(l:zak)(d:Nat):(zcf l d).length<=l.qf.length:=by
 have:=zqj (l1:=zcf l d) (l2:=l.qf.map (·.num)) (List.nodup_range.filter _) (fun p hp=>by
  obtain⟨t,h1,_,h3⟩:=(zfg l p).1 ((zh1 l d p).1 hp).2
  exact uai.2 ⟨t,h1,h3⟩)
 simpa using this
theorem zlb(jd:Int):∀(ts:List zbn) (k:Int),k<=ts.foldl (fun k t=>if t.var && decide ((t.num:Int) < jd) && decide ((t.num:Int) > k) then(t.num:Int) else k) k/\(∀ t∈ts,t.var=true->(t.num:Int) < jd->(t.num:Int)<=ts.foldl (fun k t=>if t.var && decide ((t.num:Int) < jd) && decide ((t.num:Int) > k) then(t.num:Int) else k) k)/\(k < jd->ts.foldl (fun k t=>if t.var && decide ((t.num:Int) < jd) && decide ((t.num:Int) > k) then(t.num:Int) else k) k < jd)
 |[],k=>⟨Int.le_refl _,fun t h=>(by cases h),fun h=>h⟩
 |t::ts,k=>by
  simp only[uax]
  by_cases hc:(t.var && decide ((t.num:Int) < jd) && decide ((t.num:Int) > k))=true
  ·rw[if_pos hc]
   simp only[ubb,decide_eq_true_eq] at hc
   obtain⟨i1,i2,i3⟩:=zlb jd ts (t.num:Int)
   refine⟨by omega,fun u hu hv hk=>?_,fun _=>i3 (by omega)⟩
   rcases uag.1 hu with rfl|hu
   ·exact i1
   ·exact i2 u hu hv hk
  ·rw[if_neg hc]
   obtain⟨i1,i2,i3⟩:=zlb jd ts k
   refine⟨i1,fun u hu hv hk=>?_,i3⟩
   rcases uag.1 hu with rfl|hu
   ·have:(u.num:Int)<=k:=by
     simp only[hv,hk,Bool.true_and,decide_true,decide_eq_true_eq] at hc
     omega
    omega
   ·exact i2 u hu hv hk
theorem zrr(l:zak){p:Nat}(hp:zde l p=true)(hk:(p:Int) < jd):(p:Int)<=zij l jd:=by
 obtain⟨t,h1,h2,h3⟩:=(zfg l p).1 hp
 have:=(zlb jd l.qf (-1)).2.1 t h1 h2 (by omega)
 unfold zij
 omega
theorem zxt(l:zak)(hk:0<=jd):zij l jd < jd:=(zlb jd l.qf (-1)).2.2 (by omega)
theorem z2r(l:zak)(jd:Int):-1<=zij l jd:=(zlb jd l.qf (-1)).1
theorem zk8:∀(ts:List zbn) (k:Nat),k<=ts.foldl (fun k t=>if t.var && decide (t.num ≥ k) then t.num+1 else k) k/\(∀ t∈ts,t.var=true->t.num < ts.foldl (fun k t=>if t.var && decide (t.num ≥ k) then t.num+1 else k) k)/\∀ b,k<=b->(∀ t∈ts,t.var=true->t.num < b)->ts.foldl (fun k t=>if t.var && decide (t.num ≥ k) then t.num+1 else k) k<=b
 |[],k=>⟨uaa _,fun t h=>(by cases h),fun b h _=>h⟩
 |t::ts,k=>by
  simp only[uax]
  by_cases hc:(t.var && decide (t.num ≥ k))=true
  ·rw[if_pos hc]
   simp only[ubb,decide_eq_true_eq] at hc
   obtain⟨i1,i2,i3⟩:=zk8 ts (t.num+1)
   refine⟨by omega,fun u hu hv=>?_,fun b hb hq=>i3 b (by have:=hq t (by simp) hc.1;omega) fun u hu=>hq u (by simp[hu])⟩
   rcases uag.1 hu with rfl|hu
   ·omega
   ·exact i2 u hu hv
  ·rw[if_neg hc]
   obtain⟨i1,i2,i3⟩:=zk8 ts k
   refine⟨i1,fun u hu hv=>?_,fun b hb hq=>i3 b hb fun u hu=>hq u (by simp[hu])⟩
   rcases uag.1 hu with rfl|hu
   ·have:u.num < k:=by simp only[hv,Bool.true_and,decide_eq_true_eq] at hc;omega
    omega
   ·exact i2 u hu hv
theorem zk9(l:zak){p:Nat}(hp:zde l p=true):p < zdn l:=by
 obtain⟨t,h1,h2,h3⟩:=(zfg l p).1 hp
 have:=(zk8 l.qf 0).2.1 t h1 h2
 unfold zdn
 omega
theorem ztr(l:zak){k:Nat}(h:∀ p,zde l p=true->p < k):zdn l<=k :=
 (zk8 l.qf 0).2.2 k (by omega) fun t ht hv=>h t.num ((zfg l t.num).2 ⟨t,ht,hv,rfl⟩)
theorem z7g(l:zak)(hk:0<=jd):zh0 l jd < jd:=by
 unfold zh0;split
 ·omega
 ·exact zxt l hk
theorem zrm(jd:Int):∀(ls:List zak) (b:Int),b<=ls.foldl (zbc jd) b/\(∀ l∈ls,zh0 l jd<=ls.foldl (zbc jd) b)/\(0<=jd->b < jd->ls.foldl (zbc jd) b < jd)
 |[],b=>⟨Int.le_refl _,fun l h=>(by cases h),fun _ h=>h⟩
 |l::ls,b=>by
  simp only[uax]
  obtain⟨i1,i2,i3⟩:=zrm jd ls (zbc jd b l)
  have hs:b<=zbc jd b l/\zh0 l jd<=zbc jd b l:=by unfold zbc;split <;> omega
  refine⟨by omega,fun u hu=>?_,fun h0 hb=>i3 h0 ?_⟩
  ·rcases uag.1 hu with rfl|hu
   ·omega
   ·exact i2 u hu
  ·have:=z7g l h0
   unfold zbc;split <;> omega
theorem zl1(r:zah)(hk:0<=jd):zd7 r jd < jd/\-1<=zd7 r jd/\zij r.head jd<=zd7 r jd/\(∀ l∈r.qc,zh0 l jd<=zd7 r jd)/\∀ l∈r.qm,zh0 l jd<=zd7 r jd:=by
 unfold zd7
 obtain⟨a1,a2,a3⟩:=zrm jd r.qc (zij r.head jd)
 obtain⟨b1,b2,b3⟩:=zrm jd r.qm (r.qc.foldl (zbc jd) (zij r.head jd))
 have:=z2r r.head jd
 exact⟨b3 hk (a3 hk (zxt r.head hk)),by omega,by omega,fun l hl=>by have:=a2 l hl;omega,b2⟩
theorem zyi{l:zak}{jd:Nat}{b:Int}(h:zh0 l jd<=b):(∀ p,zde l p=true->p < jd)∨∀ p,zde l p=true->p < jd->(p:Int)<=b:=by
 unfold zh0 at h
 by_cases hc:(zdn l:Int)<=jd
 ·exact Or.inl fun p hp=>by have:=zk9 l hp;omega
 ·rw[if_neg hc] at h
  exact Or.inr fun p hp hk=>by have:=zrr l (jd:=(jd:Int)) hp (by omega);omega
end Go.Proofs.YteampbddflhngaaGreat
