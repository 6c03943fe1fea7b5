import Derived.Test.YteampbddflhngaaGreatZ01
namespace Go.Proofs.YteampbddflhngaaGreat
set_option linter.all false
section
variable {r:zr}{Ts Ns:List zi}{J:z9}
structure RN (r:zr) (Ts Ns:List zi) (W:Nat) (J:z9) (d:Nat):Prop where
 stat:jq r Ts Ns J
 qi:JZ r J d
 nob:Jp r Ns J.ja d
 «from» : ∀i,i<d->J.from.getD i 0=J.ja.getD i 0+1
 small:∀i,i<d->J.ja.getD i 0<W
theorem jq.same{a:z9}(h:jq r Ts Ns J)(s:qS J a):jq r Ts Ns a:=by
 rw[s];exact⟨h.head,h.vars,h.je,h.jg,h.last,h.bars,h.qy,h.vlen,h.flen⟩
theorem RN.same{r:zr}{Ts Ns:List zi}{W:Nat}{J a:z9}{d:Nat}(h:RN r Ts Ns W J d)(s:qS J a):RN r Ts Ns W a d:=by
 refine⟨h.stat.same s,?_,?_,?_,?_⟩
 ·rw[s];exact h.qi
 ·rw[s];exact h.nob
 ·rw[s];exact h.from
 ·rw[s];exact h.small
theorem RN.back{W d b:Nat}(h:RN r Ts Ns W J d)(a:b<=d):RN r Ts Ns W J b:=by
 refine⟨h.stat,fun i l s m o=>?_,fun x u f=>h.nob x u (by omega),fun i g=>h.from i (by omega),fun i g=>h.small i (by omega)⟩;obtain⟨j,n,e⟩:=h.qi i l s m o;have t:=(wU l a).length_le;refine⟨j,fun k f q=>?_,?_⟩
 ·rw[eL l J.ja a,List.take_take,dP f];exact n k (by omega) q
 ·rw[eL l J.ja a];have c:yn l J.ja d=(yn l J.ja d).take (y9 l b).length++(yn l J.ja d).drop (y9 l b).length:=(qZ _ _).symm;rw[c,np] at e;cases p:Rl s.rows 0 ((yn l J.ja d).take (y9 l b).length) with
  |none=>rw[p] at e;cases e
  |some x=>rfl
theorem jq.side(h:jq r Ts Ns J){i:Nat}{s:yK}(hs:J.qy[i]?=some s):Ts[i]?=some s.rows:=by
 rw[←h.qy];simp[hs]
theorem jq.some{r:zr}{Ts Ns:List zi}{W:Nat}{J:z9}(h:jq r Ts Ns J)(b:dO r Ts W){i:Nat}{l:zu}(a:r.qc[i]?=some l):∃s,J.qy[i]?=some s:=by
 have c:J.qy.length=r.qc.length:=by rw[←b.len,←h.qy];simp
 have d:=(jM.1 a).1;exact⟨_,yq (by omega)⟩
theorem jq.holdsAt(h:jq r Ts Ns J){d:Nat}(a:d<5):J.je.getD d []=xb r d:=by
 rw[h.je];simp[List.getD,a]
theorem RN.hold{W d:Nat}(h:RN r Ts Ns W J d)(m:gY r)(j:dO r Ts W){x:Nat×Nat}(t:x∈xb r d):
  ∃l s,r.qc[x.1]?=some l/\J.qy[x.1]?=some s/\zH l d=true/\x.2=(y9 l d).length/\x.2<3/\vD J x=true/\vH s.rows/\s.rows.qf<=W/\∀v,Rl s.rows 0 (yn l J.ja d++[v])=j8 J x v:=by
 obtain⟨i,f⟩:=x;obtain⟨l,b,k,c⟩:=ER t;obtain⟨s,a⟩:=h.stat.some j b;have n:(y9 l (d+1)).length=f+1:=by rw[lM,zc k,c];simp
 have g:f<3:=by
  have:=oL l (d+1);have:=m.qg l (fm b);omega
 have e:=(jM.1 a).1;obtain⟨q,w,o⟩:=j.ok i l s.rows b (h.stat.side a);refine⟨l,s,b,a,k,c,g,by simp[vD,e,g],q,o,fun v=>?_⟩;obtain⟨u,p,y⟩:=h.qi i l s b a;have:=p f (by omega) g;rw[c,show(yn l J.ja d).take (y9 l d).length=yn l J.ja d by rw[←nN l J.ja d];exact vw] at this;rw[np,this];unfold j8;simp only[List.getD,a,ur,Option.bind_some,Rl,c];cases zG s.rows _ v<;>rfl
theorem ta(h:jq r Ts Ns J)(k:Nat):uT J k=true↔∃x∈r.qp.zip Ns,uG x.1=k/\(uo x.2 (zF x.1 J.ja)).isSome=true:=by
 unfold uT;rw[h.bars,List.any_map,gI];simp
theorem RN.take{r:zr}{Ts Ns:List zi}{W:Nat}{J:z9}{d v:Nat}(h:RN r Ts Ns W J d)(U:gY r)(V:dO r Ts W)(hd:d<r.vars)(hv:∀x∈xb r d,(j8 J x v).isSome=true)(hW:v<W):
  (uf J d v).ja=J.ja.set d v/\(∀i,i<d->(uf J d v).from.getD i 0=J.from.getD i 0)/\(uf J d v).from.getD d 0=v+1/\(d+1<5->(uf J d v).from.getD (d+1) 0=0)/\RN r Ts Ns W (uf J d v) d/\(uT (uf J d v) (d+1)=false->RN r Ts Ns W (uf J d v) (d+1)):=by
 have ac:=U.vars;have Z:d<5:=by omega
 have T:=h.stat.vlen;have aa:=h.stat.flen;unfold uf;rw[za (by omega),h.stat.holdsAt Z];obtain⟨R,e1,e2,X⟩:=AH v (xb r d) {J with ja:=J.ja.set d v,«from»:=(if d+1<5 then(J.from.set d (v+1)).set (d+1) 0 else J.from.set d (v+1))} (Cq r d) (fun x w=>by
  obtain⟨_,_,_,_,_,_,_,q,_⟩:=h.hold U V w;unfold vD at q ⊢;exact q)
 rw[e1];simp only at e2 X ⊢;have G:∀i,i<d->(if d+1<5 then(J.from.set d (v+1)).set (d+1) 0 else J.from.set d (v+1)).getD i 0=J.from.getD i 0:=by
  intro i A;split
  ·rw[uv,za (by omega),uv,za (by omega)]
  ·rw[uv,za (by omega)]
 have P:(if d+1<5 then(J.from.set d (v+1)).set (d+1) 0 else J.from.set d (v+1)).getD d 0=v+1:=by
  split
  ·rw[uv,za (by omega),uv,zc ⟨rfl,by omega⟩]
  ·rw[uv,zc ⟨rfl,by omega⟩]
 have E:R.map (·.rows)=Ts:=by
  rw[←h.stat.qy];refine mG fun i=>?_;simp only[lH];cases n:J.qy[i]? with
  |none=>
   have:J.qy.length<=i:=List.getElem?_eq_none_iff.1 n;rw[kF (by omega)]
  |some s=>
   rw[X i s n];simp only[jy,zt];cases (xb r d).lookup i with
   |none=>rfl
   |some lv=>simp only[setDown];split<;>rfl
 have e:jq r Ts Ns {J with qy:=R,ja:=J.ja.set d v,«from»:=(if d+1<5 then(J.from.set d (v+1)).set (d+1) 0 else J.from.set d (v+1))}:=⟨h.stat.head,h.stat.vars,h.stat.je,h.stat.jg,h.stat.last,h.stat.bars,E,by simpa using T,by show(if d+1<5 then(J.from.set d (v+1)).set (d+1) 0 else J.from.set d (v+1)).length=5;split<;>simpa using aa⟩;have y:∀l:zu,yn l (J.ja.set d v) d=yn l J.ja d:=fun l=>so l fun p t _=>by rw[uv,za (by omega)]
 have f:∀(i:Nat) (l:zu) (s c:yK),r.qc[i]?=some l->J.qy[i]?=some s->R[i]?=some c->c.qi.length=3/\(∀k,k<=(y9 l d).length->k<3->Rl c.rows 0 ((yn l J.ja d).take k)=some (c.qi.getD k 0))/\(Rl c.rows 0 (yn l J.ja d)).isSome=true/\(∀k,k<=(y9 l (d+1)).length->k<3->Rl c.rows 0 ((yn l (J.ja.set d v) (d+1)).take k)=some (c.qi.getD k 0))/\(Rl c.rows 0 (yn l (J.ja.set d v) (d+1))).isSome=true:=by
  intro i l s c g n a;obtain⟨n1,Q,n3⟩:=h.qi i l s g n;rw[X i s n] at a;by_cases I:zH l d=true
  ·have B:=RT g I;rw[GY (Cq r d) B] at a;simp only[zt] at a;obtain⟨l',s0,u,H,_,q4,q5,_,_,_,q9⟩:=h.hold U V B;simp only at u H q5;rw[g] at u;rw[n] at H;simp only[zt] at u H;subst u;subst H;have F:=hv _ B;obtain⟨bb,z⟩:=my.1 F;have D:=q9 v;rw[z] at D;have t:yn l (J.ja.set d v) (d+1)=yn l J.ja d++[v]:=by rw[DF l _ _ _ (by omega),zc I]
   have b:c.rows=s.rows:=by rw[←a];unfold setDown;split<;>rfl
   have N:(yn l J.ja d).length=(y9 l d).length:=nN _ _ _;have K:∀k,k<=(y9 l d).length->c.qi.getD k 0=s.qi.getD k 0:=by
    intro k o;rw[←a];unfold setDown;split
    ·rfl
    ·rw[uv,za (by omega)]
   have ab:zG s.rows (s.qi.getD (y9 l d).length 0) v=some bb:=by
    unfold j8 at z;simpa [List.getD,n] using z
   refine⟨by rw[←a];unfold setDown;split<;>simp[n1],fun k o h3=>by rw[b,K k o];exact Q k o h3,by rw[b];exact n3,fun k o h3=>?_,by rw[b,t,D];rfl⟩;rw[b,t];rw[lM,zc I,yp,List.length_singleton] at o;by_cases M:k<=(y9 l d).length
   ·rw[List.take_append_of_le_length (by omega),K k M];exact Q k M h3
   ·have:k=(y9 l d).length+1:=by omega
    subst this;rw[xh (by simp[N]),D,←a];unfold setDown;rw[za (by omega)];simp only;rw[uv,zc ⟨rfl,by omega⟩,ab];rfl
  ·have Y:∀lv,(i,lv)∉xb r d:=fun lv B=>by
    obtain⟨l',u,H,_⟩:=ER B;rw[g] at u;simp only[zt] at u;subst u;exact I H
   rw[MY Y] at a;simp only[zt] at a;subst a;have t:yn l (J.ja.set d v) (d+1)=yn l J.ja d:=by rw[DF l _ _ _ (by omega),za I]
   have F:y9 l (d+1)=y9 l d:=by rw[lM,za I]
   exact⟨n1,Q,n3,by rw[t,F];exact Q,by rw[t];exact n3⟩
 have j:=fun(i:Nat) (l:zu) (c:yK) (g:r.qc[i]?=some l) (_:R[i]?=some c)=>h.stat.some V g;have O:∀x∈r.qp.zip Ns,uG x.1<=d->zF x.1 (J.ja.set d v)=zF x.1 J.ja:=fun x _ o=>n7 x.1 fun p t=>by
  have:=tC x.1 t;rw[uv,za (by omega)]
 refine⟨trivial,G,P,fun h5=>?_,⟨e,fun i l c g a=>?_,fun x w o=>?_,fun i A=>?_,fun i A=>?_⟩,fun hb=>⟨e,fun i l c g a=>?_,fun x w o=>?_,fun i A=>?_,fun i A=>?_⟩⟩
 ·rw[zc h5,uv,zc ⟨rfl,by simp;omega⟩]
 ·obtain⟨s,n⟩:=j i l c g a;obtain⟨S,a2,a3,_,_⟩:=f i l s c g n a;exact⟨S,by rw[y];exact a2,by rw[y];exact a3⟩
 ·show uo x.2 (zF x.1 (J.ja.set d v))=none;rw[O x w o];exact h.nob x w o
 ·show(if d+1<5 then _ else _:List Nat).getD i 0=(J.ja.set d v).getD i 0+1;rw[G i A,uv,za (by omega)];exact h.from i A
 ·show(J.ja.set d v).getD i 0<W;rw[uv,za (by omega)];exact h.small i A
 ·obtain⟨s,n⟩:=j i l c g a;obtain⟨S,_,_,a4,a5⟩:=f i l s c g n a;exact⟨S,a4,a5⟩
 ·show uo x.2 (zF x.1 (J.ja.set d v))=none;by_cases L:uG x.1<=d
  ·rw[O x w L];exact h.nob x w L
  ·cases B:uo x.2 (zF x.1 (J.ja.set d v)) with
   |none=>rfl
   |some m=>
    have:=(ta e (d+1)).2 ⟨x,w,by omega,by show(uo x.2 (zF x.1 (J.ja.set d v))).isSome=true;rw[B];rfl⟩;rw[hb] at this;cases this
 ·show(if d+1<5 then _ else _:List Nat).getD i 0=(J.ja.set d v).getD i 0+1;by_cases C:i=d
  ·subst C;rw[P,uv,zc ⟨rfl,by omega⟩]
  ·rw[G i (by omega),uv,za (by omega)];exact h.from i (by omega)
 ·show(J.ja.set d v).getD i 0<W;by_cases C:i=d
  ·subst C;rw[uv,zc ⟨rfl,by omega⟩];exact hW
  ·rw[uv,za (by omega)];exact h.small i (by omega)
end
section
variable {d W:Nat}{Ts Ns:List zi}
def Ob(d:Nat)(vals:List Nat)(f:Nat)(y:List Nat):Prop:=(∀p,p<d->y.getD p 0=vals.getD p 0)/\f<=y.getD d 0∨∃i,i<d/\(∀p,p<i->y.getD p 0=vals.getD p 0)/\vals.getD i 0<y.getD i 0
def S8(r:zr)(Ts Ns:List zi)(E:zm->Prop)(d:Nat)(vals:List Nat)(f:Nat):Prop:=∀y,js r Ts Ns y->E (zF r.head y)∨Ob d vals f y
theorem On{l:zu}{e:Nat}(a:∀p,zH l p=true->p<d)(b:d<=e):y9 l e=y9 l d:=by
 induction b with
 |refl=>rfl
 |@step m h c=>
  rw[lM,za (fun q=>by have:=a _ q;have:d<=m:=h;omega),c]
def m8(d:Nat)(vals y:List Nat):List Nat:=(List.range 5).map fun p=>if p<d then vals.getD p 0 else y.getD p 0
theorem eR(d:Nat)(vals y:List Nat){p:Nat}(a:p<5):(m8 d vals y).getD p 0=if p<d then vals.getD p 0 else y.getD p 0:=by
 simp[m8,List.getD,a]
theorem Lf{T:zi}{a:Nat}{p q:zm}(h:(Rl T a (p++q)).isSome=true):(Rl T a p).isSome=true:=by
 rw[np] at h;cases b:Rl T a p with
 |none=>rw[b] at h;cases h
 |some x=>rfl
theorem RN.mix{r:zr}{J:z9}(h:RN r Ts Ns W J d)(k:gY r)(w:dO r Ts W)(D:d<=r.vars){y:List Nat}(o:js r Ts Ns y)(B:∀p:Nat,(p:Int)<=xy r (d:Nat)->y.getD p 0=J.ja.getD p 0):js r Ts Ns (m8 d J.ja y)/\zF r.head (m8 d J.ja y)=zF r.head y:=by
 obtain⟨_,_,E,z,A⟩:=pV r (jd:=(d:Nat)) (by omega);have C:=k.vars;have m:∀{l:zu},(∀p,zH l p=true->p<r.vars)->(∀p,zH l p=true->p<d)->∀p,zH l p=true->(m8 d J.ja y).getD p 0=J.ja.getD p 0:=fun g b p c=>by
  have:=g p c;rw[eR d _ _ (by omega),zc (b p c)]
 have j:∀{l:zu},(∀p,zH l p=true->p<r.vars)->(∀p,zH l p=true->p<d->(p:Int)<=xy r (d:Nat))->∀p,zH l p=true->(m8 d J.ja y).getD p 0=y.getD p 0:=fun g b p c=>by
  have:=g p c;rw[eR d _ _ (by omega)];split
  ·rename_i n;exact(B p (b p c n)).symm
  ·rfl
 refine⟨⟨fun i l T g u=>⟨fun q=>(o.1 i l T g u).1 q,fun q=>?_⟩,fun x t=>?_⟩,n7 _ (j k.head fun p c b=>by have:=oQ r.head (jd:=((d:Nat):Int)) c (by omega);omega)⟩
 ·have a:=fm g;rcases Ak (z l a) with b|b
  ·obtain⟨s,v⟩:=h.stat.some w g;have f:=h.stat.side v;rw[u] at f;simp only[zt] at f;have e:yn l (m8 d J.ja y) 5=yn l J.ja d:=by
    rw[so l (y:=J.ja) fun p _ c=>m (k.qc l a) b p c];unfold yn;rw[On b (by omega)]
   rw[e,f];exact(h.qi i l s g v).2.2
  ·rw[so l (y:=y) fun p _ c=>j (k.qc l a) b p c];exact(o.1 i l T g u).2 q
 ·have a:=(List.of_mem_zip t).1;rcases Ak (A x.1 a) with b|b
  ·rw[n7 x.1 (m (k.qp x.1 a) b)];exact h.nob x t (Bf x.1 b)
  ·rw[n7 x.1 (j (k.qp x.1 a) b)];exact o.2 x t
theorem RN.sol{r:zr}{J:z9}(h:RN r Ts Ns W J d)(c:gY r)(j:dO r Ts W)(w:d<r.vars){y:List Nat}(f:js r Ts Ns y)(o:∀p,p<d->y.getD p 0=J.ja.getD p 0):∀x∈xb r d,(j8 J x (y.getD d 0)).isSome=true:=by
 intro x v;obtain⟨l,s,k,u,b,_,_,_,_,_,i⟩:=h.hold c j v;have n:=c.vars;have t:=h.stat.side u;have m:yO l≠0:=by
  rw[f9];intro q;have:d∈y9 l 5:=(pK l 5 d).2 ⟨by omega,b⟩;rw[mF.1 q] at this;cases this
 have a:=(f.1 x.1 l s.rows k t).2 m;rw[←i];have e:yn l J.ja d++[y.getD d 0]=yn l y (d+1):=by
  have:yn l y d=yn l J.ja d:=so l fun p g _=>o p g;unfold yn at this ⊢;rw[lM,zc b,uQ,this];rfl
 rw[e,eL l y (show d+1<=5 by omega)];unfold xY at a;rw[←qZ (y9 l (d+1)).length (yn l y 5)] at a;exact Lf a
def pR(W:Nat):Nat->Nat
 |0=>1
 |j+1=>W*(1+pR W j)+1
def hO(W vars d f:Nat):Nat:=(W-f)*(1+pR W (vars-d-1))+1
def gV(W vars:Nat)(vals:List Nat):Nat->Nat
 |0=>0
 |d+1=>gV W vars vals d+hO W vars d (vals.getD d 0+1)
def vF(W vars d:Nat)(vals:List Nat)(f:Nat):Nat:=gV W vars vals d+if d<vars then hO W vars d f else 1
theorem Dy(W vars:Nat){x y:List Nat}:∀d,(∀p,p<d->x.getD p 0=y.getD p 0)->gV W vars x d=gV W vars y d
 |0,_=>rfl
 |d+1,h=>by simp only[gV];rw[Dy W vars d (fun p a=>h p (by omega)),h d (by omega)]
theorem IU(W vars:Nat)(vals:List Nat){a b:Nat}(h:a<=b):gV W vars vals a<=gV W vars vals b:=by
 induction h with
 |refl=>exact zg _
 |step h c=>simp only[gV];omega
theorem NV{vars f v:Nat}{vals:List Nat}(a:d<vars)(g:d<vals.length)(k:f<=v)(m:v<W):vF W vars (d+1) (vals.set d v) 0<vF W vars d vals f/\vF W vars d (vals.set d v) (v+1)<vF W vars d vals f:=by
 have b:gV W vars (vals.set d v) d=gV W vars vals d:=Dy W vars d fun p i=>by rw[uv,za (by omega)]
 have e:(vals.set d v).getD d 0=v:=by rw[uv,zc ⟨rfl,g⟩]
 have h:(if d+1<vars then hO W vars (d+1) 0 else 1)=pR W (vars-d-1):=by
  split
  ·obtain⟨j,c⟩:∃j,vars-d-1=j+1:=⟨vars-d-2,by omega⟩;rw[c];unfold hO;rw[show vars-(d+1)-1=j by omega,Nat.sub_zero];rfl
  ·rw[show vars-d-1=0 by omega];rfl
 have l:hO W vars d f=hO W vars d (v+1)+(v+1-f)*(1+pR W (vars-d-1)):=by
  unfold hO;rw[show W-f=(W-(v+1))+(v+1-f) by omega,hY];omega
 have n:1*(1+pR W (vars-d-1))<=(v+1-f)*(1+pR W (vars-d-1)):=d8 _ (by omega);refine⟨?_,?_⟩
 ·unfold vF;rw[zc a,h];simp only[gV];rw[b,e];omega
 ·unfold vF;rw[zc a,zc a,b];omega
theorem BK(W vars d:Nat)(vals:List Nat)(f:Nat):1<=vF W vars d vals f:=by
 unfold vF;split
 ·unfold hO;omega
 ·omega
theorem Cy{vars b f:Nat}{vals:List Nat}(h:d<=vars)(c:b<d):vF W vars b vals (vals.getD b 0+1)<vF W vars d vals f:=by
 have a:vF W vars b vals (vals.getD b 0+1)=gV W vars vals (b+1):=by
  unfold vF;rw[zc (by omega)];rfl
 have e:=IU W vars vals (show b+1<=d by omega);have g:1<=if d<vars then hO W vars d f else 1:=by
  split
  ·unfold hO;omega
  ·omega
 rw[a];unfold vF;omega
def LA(r:zr)(Ts Ns:List zi)(W:Nat)(E:zm->Prop)(M:Nat)(a:z9):Bool->Prop
 |true=>RN r Ts Ns W a r.vars/\S8 r Ts Ns E r.vars a.ja 0/\vF W r.vars r.vars a.ja 0<=M
 |false=>(∀y,js r Ts Ns y->E (zF r.head y))/\jq r Ts Ns a
theorem jq.ok{r:zr}{Ts Ns:List zi}{W:Nat}{J:z9}(h:jq r Ts Ns J)(c:dO r Ts W):iA J:=by
 intro i;cases b:J.qy[i]? with
 |none=>
  have:J.qy.getD i yK.zero=yK.zero:=by simp[List.getD,b]
  rw[this];intro a j;simp[yK.zero] at j
 |some s=>
  have:J.qy.getD i yK.zero=s:=by simp[List.getD,b]
  rw[this];have e:=h.side b;have f:i<r.qc.length:=by rw[←c.len];exact(jM.1 e).1
  obtain⟨⟨g,hinv⟩,_⟩:=(c.ok i _ _ (yq f) e).1;exact hinv.node
theorem PB{r:zr}(F:gY r)(M:dO r Ts W)(E:zm->Prop)(A:Nat)(hA:W*(r.qc.length+1)+r.qc.length<=A):
  ∀(n:Nat) (J:z9) (d f:Nat),RN r Ts Ns W J d->d<=r.vars->(d<r.vars->J.from.getD d 0=f)->S8 r Ts Ns E d J.ja f->vF W r.vars d J.ja f+A<n->∃K b,jv n J (d:Nat)=some (K,b)/\LA r Ts Ns W E (vF W r.vars d J.ja f) K b:=by
 intro n;induction n with
 |zero=>intro J d f _ _ _ _ h;omega
 |succ n ih=>
  intro J d f h hd aa Y hn;have an:=F.vars;have am:=BK W r.vars d J.ja f;unfold jv;have O:=h.stat.vars;by_cases j:d<r.vars
  ·rw[zc ⟨by omega,by rw[O];omega,by omega⟩];simp only[Int.toNat_natCast];have a:=h.stat.holdsAt (show d<5 by omega);have U:J.je.getD d []≠[]:=by
    rw[a];obtain⟨l,af,ah⟩:=F.safe d j;obtain⟨i,hi,rfl⟩:=qa af;intro q;have:=RT (yq hi) ah;rw[q] at this;cases this
   have al:(xb r d).length<=r.qc.length:=by
    unfold xb;refine yc (sd _ _) ?_;simp
   have aq:W*((xb r d).length+1)+(xb r d).length<=A:=by
    have:W*((xb r d).length+1)<=W*(r.qc.length+1):=m9 _ (by omega);omega
   obtain⟨D,ag,a1,a2,a3⟩:=I4 W J d (J.from.getD d 0) n (by omega) (h.stat.ok M) U (by
    rw[a];intro x B;obtain⟨_,_,_,_,_,_,_,q,_⟩:=h.hold F M B;exact q) (by
    rw[a];intro x B v hv;obtain⟨l,s,_,u,_,_,_,_,_,q8,_⟩:=h.hold F M B;unfold j8 at hv;obtain⟨b,C⟩:=my.1 hv;have:=(dW C).2;rw[show J.qy.getD x.1 yK.zero=s by simp[List.getD,u]] at this;omega) (by rw[a];omega)
   rw[a] at a3;rw[aa j] at a1 a3;rw[aa j,a1];have h1:=h.same a2;have k:D.ja=J.ja:=by rw[a2]
   have R:D.from=J.from:=by rw[a2]
   have P:=fun x v=>Kz a2 x v;cases ag with
   |none=>
    simp only;have aj:D.jg.getD d 0=xy r (d:Nat):=by rw[h1.stat.jg];simp[List.getD,show d<5 by omega]
    rw[aj];obtain⟨b1,b2,b3,b4,b5⟩:=pV r (jd:=((d:Nat):Int)) (by omega);have G:∀y,js r Ts Ns y->(∀p:Nat,(p:Int)<=xy r (d:Nat)->y.getD p 0=J.ja.getD p 0)->E (zF r.head y):=by
     intro y o ha;obtain⟨m1,m2⟩:=h.mix F M hd o ha;have I:∀p,p<d->(m8 d J.ja y).getD p 0=J.ja.getD p 0:=fun p m=>by rw[eR d _ _ (by omega),zc m]
     rw[←m2];rcases Y _ m1 with q|⟨_,q⟩|⟨i,g,_,N⟩
     ·exact q
     ·obtain⟨x,B,S⟩:=a3 _ q;have:=h.sol F M j m1 I x B;rw[S] at this;cases this
     ·rw[I i g] at N;omega
    by_cases ak:xy r (d:Nat)<0
    ·have ad:xy r (d:Nat)=-1:=by omega
     rw[ad];cases n with
     |zero=>omega
     |succ n=>
      refine⟨D,false,?_,?_,h1.stat⟩
      ·unfold jv;rw[za (by omega)];have:¬((-1:Int)≥(D.vars:Int)):=by omega
       simp[this]
      ·intro y o;exact G y o fun p m=>by omega
    ·obtain⟨b,C⟩:∃b:Nat,xy r (d:Nat)=(b:Int):=⟨(xy r (d:Nat)).toNat,by omega⟩;rw[C] at G b1 ⊢;have ab:b<d:=by omega
     have hM:=Cy (W:=W) (vars:=r.vars) (f:=f) (vals:=J.ja) hd ab;obtain⟨K,H,V,t⟩:=ih D b (J.ja.getD b 0+1) (h1.back (by omega)) (by omega) (fun _=>by rw[R,h.from b ab]) (by
      rw[k];intro y o;rcases Y y o with q|⟨g,u⟩|⟨i,g,u,N⟩
      ·exact zf q
      ·exact zf (G y o fun p m=>g p (by omega))
      ·by_cases ar:i<=b
       ·refine zb ?_;by_cases X:i=b
        ·subst X;exact zf ⟨u,by omega⟩
        ·exact zb ⟨i,by omega,u,N⟩
       ·exact zf (G y o fun p m=>u p (by omega))) (by rw[k];omega)
     refine⟨K,H,V,?_⟩;rw[k] at t;cases H with
     |true=>exact⟨t.1,t.2.1,by have:=t.2.2;omega⟩
     |false=>exact t
   |some v=>
    simp only;obtain⟨c1,c2,c3⟩:=a3;have Z:v<W:=by
     obtain⟨x,B⟩:=List.exists_mem_of_ne_nil _ (a ▸ U);obtain⟨l,s,_,u,_,_,_,_,_,q8,_⟩:=h.hold F M B;have hv:=c2 x B;unfold j8 at hv;obtain⟨b,C⟩:=my.1 hv;have:=(dW C).2;rw[show J.qy.getD x.1 yK.zero=s by simp[List.getD,u]] at this;omega
    obtain⟨L,t2,t3,t4,t5,t6⟩:=h1.take F M j (v:=v) (fun x B=>by rw[P];exact c2 x B) Z;rw[k] at L;have ac:d<J.ja.length:=by rw[h.stat.vlen];omega
    obtain⟨m1,m2⟩:=NV (W:=W) (vars:=r.vars) (f:=f) (vals:=J.ja) j ac c1 Z;have z:∀y,js r Ts Ns y->(∀p,p<d->y.getD p 0=J.ja.getD p 0)->f<=y.getD d 0->v<=y.getD d 0:=by
     intro y o ha hq;false_or_by_contra
     rename_i ap;obtain⟨x,B,S⟩:=c3 (y.getD d 0) hq (by omega);have:=h.sol F M j o ha x B;rw[S] at this;cases this
    have c:∀p,p<d->(J.ja.set d v).getD p 0=J.ja.getD p 0:=fun p m=>by rw[uv,za (by omega)]
    have w:(J.ja.set d v).getD d 0=v:=by rw[uv,zc ⟨rfl,ac⟩]
    by_cases C:uT (uf D d v) (d+1)=true
    ·rw[zc C];obtain⟨x,B,hk,hm⟩:=(ta t5.stat (d+1)).1 C;rw[L] at hm;obtain⟨K,H,V,t⟩:=ih (uf D d v) d (v+1) t5 hd (fun _=>t3) (by
      rw[L];intro y o;rcases Y y o with q|⟨g,u⟩|⟨i,g,u,N⟩
      ·exact zf q
      ·have ae:=z y o g u;by_cases Q:y.getD d 0=v
       ·have:=o.2 x B;rw[n7 x.1 (y:=J.ja.set d v) fun p m=>?_] at this
        ·rw[this] at hm;cases hm
        ·have ao:=tC x.1 m;by_cases T:p=d
         ·rw[T,w,Q]
         ·rw[c p (by omega),g p (by omega)]
       ·exact zb (zf ⟨fun p m=>by rw[c p m];exact g p m,by omega⟩)
      ·exact zb (zb ⟨i,g,fun p m=>by rw[c p (by omega)];exact u p m,by rw[c i g];exact N⟩)) (by rw[L];omega)
     refine⟨K,H,V,?_⟩;rw[L] at t;cases H with
     |true=>exact⟨t.1,t.2.1,by have:=t.2.2;omega⟩
     |false=>exact t
    ·rw[za C];have C:uT (uf D d v) (d+1)=false:=by simpa using C
     have e:((d:Nat):Int)+1=((d+1:Nat):Int):=by omega
     rw[e];obtain⟨K,H,V,t⟩:=ih (uf D d v) (d+1) 0 (t6 C) (by omega) (fun _=>t4 (by omega)) (by
      rw[L];intro y o;rcases Y y o with q|⟨g,u⟩|⟨i,g,u,N⟩
      ·exact zf q
      ·have ae:=z y o g u;by_cases Q:y.getD d 0=v
       ·refine zb (zf ⟨fun p m=>?_,zv _⟩);by_cases T:p=d
        ·rw[T,w,Q]
        ·rw[c p (by omega)];exact g p (by omega)
       ·exact zb (zb ⟨d,by omega,fun p m=>by rw[c p m];exact g p m,by rw[w];omega⟩)
      ·exact zb (zb ⟨i,by omega,fun p m=>by rw[c p (by omega)];exact u p m,by rw[c i g];exact N⟩)) (by rw[L];omega)
     refine⟨K,H,V,?_⟩;rw[L] at t;cases H with
     |true=>exact⟨t.1,t.2.1,by have:=t.2.2;omega⟩
     |false=>exact t
  ·have ai:d=r.vars:=by omega
   subst ai;rw[za (by rw[O];omega)];refine⟨J,true,by simp[O],h,?_,?_⟩
   ·intro y o;rcases Y y o with q|⟨g,_⟩|q
    ·exact zf q
    ·exact zb (zf ⟨g,zv _⟩)
    ·exact zb (zb q)
   ·unfold vF;rw[za j,za j];exact zg _
end
def n6(r:zr)(a Ns:List zi)(W:Nat)(E:zm->Prop)(J:z9)(M:Nat):Prop:=
 J.ql=-1/\jq r a Ns J/\(∀y,js r a Ns y->E (zF r.head y))∨(∀(i:Nat) (T:zi),a[i]?=some T->T.count≠0)/\∃(d f:Nat),J.ql=(d:Nat)/\d<=r.vars/\RN r a Ns W J d/\(d<r.vars->J.from.getD d 0=f)/\S8 r a Ns E d J.ja f/\vF W r.vars d J.ja f<=M
theorem te{d:Nat}(e:d≠0)(c:d<=3):yY d=d:=by unfold yY;by_cases a:d<1<;>by_cases b:d>3<;>simp[a,b]<;>omega
theorem sR.count{T:zi}{l:zu}{y:List Nat}(h:sR T l y)(d:vH T)(f:T.ql=yY (yO l))(g:l.qg.length<=3):T.count≠0:=by
 by_cases a:yO l=0
 ·exact h.1 a
 ·have c:=h.2 a;have e:=oL l 5;rw[←f9] at e;have b:=(qY T _).2 ⟨by rw[nN,←f9,f,te a (by omega)],c⟩;have:=m7 b;rw[d.cnt] at this;omega
def mo(r:zr)(qc qp:List zi):z9:={head:=r.head,vars:=r.vars,qy:=qc.map (fun T=>⟨T,[0,0,0]⟩),bars:=(r.qp.zip qp).map (fun x=>⟨x.1,uG x.1,x.2⟩),je:=(List.range 5).map (xb r),jg:=(List.range 5).map (fun p=>xy r (p:Nat)),last:=xy r r.vars,ja:=[0,0,0,0,0],«from»:=[0,0,0,0,0],ql:=if qc.any (fun T=>T.count == 0) then -1 else 0,jf:=0}
theorem Gm(r:zr)(a Ns:List zi):xr r a Ns=if uT (mo r a Ns) 0 then{mo r a Ns with ql:=-1} else mo r a Ns:=rfl
theorem eO(r:zr)(a Ns:List zi):∃c,xr r a Ns={mo r a Ns with ql:=c}/\c=if uT (xr r a Ns) 0=true then -1 else if a.any (fun T=>T.count == 0)=true then -1 else 0:=by
 have d:∀c:Int,uT {mo r a Ns with ql:=c} 0=uT (mo r a Ns) 0:=fun _=>rfl;rw[Gm];by_cases b:uT (mo r a Ns) 0=true
 ·rw[zc b];exact⟨-1,rfl,by rw[d,zc b]⟩
 ·rw[za b];exact⟨_,rfl,by rw[za b]⟩
theorem Ic(r:zr)(a Ns:List zi):jq r a Ns (xr r a Ns)/\(xr r a Ns).ja=[0,0,0,0,0]/\(xr r a Ns).from=[0,0,0,0,0]/\(xr r a Ns).qy=a.map (fun T=>⟨T,[0,0,0]⟩):=by
 obtain⟨b,h,_⟩:=eO r a Ns;rw[h];exact⟨⟨rfl,rfl,rfl,rfl,rfl,rfl,by simp[mo,Function.comp_def],rfl,rfl⟩,rfl,rfl,rfl⟩
theorem Ik{r:zr}{b Ns:List zi}{W:Nat}(H:gY r)(C:dO r b W)(E:zm->Prop):n6 r b Ns W E (xr r b Ns) (vF W r.vars 0 [] 0):=by
 obtain⟨c,K,B,A⟩:=Ic r b Ns;have d:(∃(i:Nat) (T:zi),b[i]?=some T/\T.count=0)->∀y,¬js r b Ns y:=by
  rintro⟨i,T,g,n⟩ y f;have o:i<r.qc.length:=by rw[←C.len];exact(jM.1 g).1
  have q:=yq o;obtain⟨G,I,_⟩:=C.ok i _ T q g;exact(f.1 i _ T q g).count G I (H.qg _ (fm q)) n
 have e:uT (xr r b Ns) 0=true->∀y,¬js r b Ns y:=by
  intro h y f;obtain⟨x,z,t,u⟩:=(ta c 0).1 h;have:=f.2 x z;rw[n7 x.1 (y:=(xr r b Ns).ja) fun p j=>by have:=tC x.1 j;omega] at this;rw[this] at u;cases u
 have a:(xr r b Ns).ql=if uT (xr r b Ns) 0=true then -1 else if b.any (fun T=>T.count == 0)=true then -1 else 0:=by
  obtain⟨J,g,n⟩:=eO r b Ns;rw[←n,g]
 by_cases h:uT (xr r b Ns) 0=true
 ·left;rw[zc h] at a;exact⟨a,c,fun y f=>zC f (e h y)⟩
 ·rw[za h] at a;by_cases v:b.any (fun T=>T.count == 0)=true
  ·left;rw[zc v] at a;refine⟨a,c,fun y f=>zC f (d ?_ y)⟩;obtain⟨T,g,n⟩:=gI.1 v;obtain⟨i,o,rfl⟩:=qa g;exact⟨i,_,yq o,by simpa using n⟩
  ·right;rw[za v] at a;refine⟨fun i T D F=>v (gI.2 ⟨T,fm D,by simp[F]⟩),0,0,a,zv _,⟨c,fun i l s q w=>?_,fun x z t=>?_,fun i o=>by omega,fun i o=>by omega⟩,fun _=>by rw[B];rfl,fun y _=>zb (zf ⟨fun p j=>by omega,zv _⟩),?_⟩
   ·rw[A] at w;simp only[lH,vN] at w;obtain⟨T,D,rfl⟩:=w;have j:yn l (xr r b Ns).ja 0=[]:=rfl;refine⟨rfl,fun k t L=>?_,by rw[j];rfl⟩;have:k=0:=by simp[y9] at t;exact t
    subst this;rw[j];rfl
   ·cases u:uo x.2 (zF x.1 (xr r b Ns).ja) with
    |none=>rfl
    |some m=>exact zC ((ta c 0).2 ⟨x,z,by omega,by rw[u];rfl⟩) h
   ·unfold vF;exact zg _
theorem Mp{r:zr}{u Ns:List zi}{W:Nat}(B:gY r)(Q:dO r u W)(E:zm->Prop)(A:Nat)(hA:W*(r.qc.length+1)+r.qc.length<=A)(n:Nat)(J:z9)(M:Nat)(h:n6 r u Ns W E J M)(hn:M+A+1<n):
  ∃e b,dQ n J=some (e,b)/\(b=false->∀y,js r u Ns y->E (zF r.head y))/\(b=true->js r u Ns e.ja/\e.head=r.head/\∃V,V<M/\n6 r u Ns W (fun x=>E x∨x=zF r.head e.ja) e V):=by
 unfold dQ;rcases h with⟨F,N,I⟩|⟨t,d,f,F,N,I,h4,h5,h6⟩
 ·rw[F];obtain⟨k,rfl⟩:∃k,n=k+1:=⟨n-1,by omega⟩;refine⟨{J with ql:=-1},false,?_,fun _=>I,fun q=>by cases q⟩;unfold jv;have:¬((-1:Int)≥(J.vars:Int)):=by omega
  simp[this]
 ·rw[F];obtain⟨e,b,s1,S⟩:=PB B Q E A hA n J d f I N h4 h5 (by omega);rw[s1];simp only;cases b with
  |false=>exact⟨_,false,rfl,fun _=>S.1,fun q=>by cases q⟩
  |true=>
   obtain⟨c,Z,t3⟩:=S;have K:=B.vars;have C:js r u Ns e.ja:=by
    refine⟨fun i l T G Y=>⟨fun _=>t i T Y,fun _=>?_⟩,fun x U=>?_⟩
    ·obtain⟨s,R⟩:=c.stat.some Q G;have j:=c.stat.side R;rw[Y] at j;simp only[zt] at j;rw[PO K (B.qc l (fm G)),j];exact(c.qi i l s G R).2.2
    ·exact c.nob x U (Bf x.1 (B.qp x.1 (List.of_mem_zip U).1))
   refine⟨_,true,rfl,fun q=>(by cases q),fun _=>⟨C,c.stat.head,?_⟩⟩;obtain⟨b1,b2,b3,_,_⟩:=pV r (jd:=((r.vars:Nat):Int)) (by omega);have m:=c.stat.last;have v:∀y,(∀p:Nat,(p:Int)<=xy r (r.vars:Nat)->y.getD p 0=e.ja.getD p 0)->zF r.head y=zF r.head e.ja:=fun y ha=>n7 r.head fun p w=>ha p (by
    have F:=B.head p w;have:=oQ r.head (jd:=((r.vars:Nat):Int)) w (by omega);omega)
   have g:jq r u Ns {e with ql:=e.last}:=⟨c.stat.head,c.stat.vars,c.stat.je,c.stat.jg,c.stat.last,c.stat.bars,c.stat.qy,c.stat.vlen,c.stat.flen⟩;have X:=BK W r.vars d J.ja f;by_cases L:xy r (r.vars:Nat)<0
   ·refine⟨M-1,by omega,zf ⟨by show e.last=-1;rw[m];omega,g,fun y P=>?_⟩⟩;exact zb (v y fun p w=>by omega)
   ·obtain⟨o,hb⟩:∃b:Nat,xy r (r.vars:Nat)=(b:Int):=⟨(xy r (r.vars:Nat)).toNat,by omega⟩;have z:o<r.vars:=by omega
    have hM:=Cy (W:=W) (vars:=r.vars) (f:=0) (vals:=e.ja) (zg _) z;have a:=c.back (b:=o) (by omega);refine⟨vF W r.vars o e.ja (e.ja.getD o 0+1),by omega,zb ⟨t,o,e.ja.getD o 0+1,by show e.last=_;rw[m,hb],by omega,⟨g,a.qi,a.nob,a.from,a.small⟩,fun _=>c.from o z,fun y P=>?_,zg _⟩⟩;rcases Z y P with q|⟨O,_⟩|⟨i,O,H,q3⟩
    ·exact zf (zf q)
    ·exact zf (zb (v y fun p w=>O p (by omega)))
    ·by_cases aa:i<=o
     ·refine zb ?_;by_cases D:i=o
      ·subst D;exact zf ⟨H,by omega⟩
      ·exact zb ⟨i,by omega,H,q3⟩
     ·exact zf (zb (v y fun p w=>H p (by omega)))
section
variable {l:zu}{a W:Nat}{row:zm}
structure qK (l:zu) (a W:Nat):Prop where
 len:l.qg.length=a
 le3:a<=3
 lev:∀t∈l.qg,t.var=true->t.num<5/\yN l t.num=some t.level
 con:∀t∈l.qg,t.var=false->t.num<W
def QN(a:Nat)(row:zm):Prop:=row.length=3/\∀i,a<=i->row.getD i 0=0
theorem ir(l:zu)(y:List Nat){i:Nat}(b:i<3):(zF l y).getD i 0=Q7 l y i:=by
 match i,b with
 |0,_=>rfl
 |1,_=>rfl
 |2,_=>rfl
theorem tJ(h:qK l a W)(y:List Nat):QN a (zF l y):=by
 refine⟨rfl,fun i c=>?_⟩;by_cases b:i<3
 ·rw[ir l y b];unfold Q7;rw[za (by rw[h.len];omega)]
 ·simp[List.getD,zF];rw[kF (by simp;omega)];rfl
theorem BA{x y:zm}(c:QN a x)(d:QN a y)(h:∀i,i<a->i<3->x.getD i 0=y.getD i 0):x=y:=by
 refine kP (by rw[c.1,d.1]) fun i b g=>?_;have e:x.getD i 0=y.getD i 0:=by
  by_cases f:i<a
  ·exact h i f (by rw[c.1] at b;exact b)
  ·rw[c.2 i (by omega),d.2 i (by omega)]
 simpa [List.getD,b,g] using e
theorem Me{p d:Nat}(c:zH l p=true)(e:p<d):(y9 l d)[(y9 l p).length]?=some p:=by
 obtain⟨t,b⟩:=wU l (show p+1<=d by omega);rw[←b,lM,zc c];simp
theorem wP{p j:Nat}(h:yN l p=some j)(b:p<5):(y9 l 5)[j]?=some p:=by
 rw[oq] at h;split at h
 ·rename_i c;simp only[zt] at h;subst h;exact Me c b
 ·cases h
theorem ef{p j:Nat}(h:yN l p=some j)(b:p<5):j<yO l:=by
 have:=wP h b;rw[f9];exact(jM.1 this).1
theorem og(h:qK l a W):yO l<=3:=by
 have:=oL l 5;rw[f9];have:=h.len;have:=h.le3;omega
theorem qK.leveled{l:zu}{a W:Nat}(h:qK l a W){t:zZ}(b:t∈l.qg):leveled t=t.var:=by
 unfold Go.Proofs.YteampbddflhngaaGreat.leveled;cases c:t.var with
 |false=>rfl
 |true=>
  obtain⟨d,e⟩:=h.lev t b c;have:=ef e d;have:=og h;simp;omega
theorem pJ(l:zu)(row f:zm)(i:Nat):(qJ l row f i).length=f.length:=by unfold qJ;split<;>simp
theorem rJ(l:zu)(row:zm):(uq l row).length=3:=by unfold uq;rw[pJ,pJ,pJ];rfl
theorem oV{g:Nat->Nat}(u:∀i (c:i<l.qg.length),leveled l.qg[i]=true->row.getD i 0=g l.qg[i].level){f:zm}{m:Nat}(t:f.length=3)
  (v:∀j,j<3->(f.getD j 0=g j∨f.getD j 0=0)/\((∃i,∃c:i<l.qg.length,i<m/\leveled l.qg[i]=true/\l.qg[i].level=j)->f.getD j 0=g j)/\((¬∃i,∃c:i<l.qg.length,leveled l.qg[i]=true/\l.qg[i].level=j)->f.getD j 0=0)):
  ∀j,j<3->((qJ l row f m).getD j 0=g j∨(qJ l row f m).getD j 0=0)/\((∃i,∃c:i<l.qg.length,i<m+1/\leveled l.qg[i]=true/\l.qg[i].level=j)->(qJ l row f m).getD j 0=g j)/\((¬∃i,∃c:i<l.qg.length,leveled l.qg[i]=true/\l.qg[i].level=j)->(qJ l row f m).getD j 0=0):=by
 intro j o;obtain⟨s,p,r⟩:=v j o;unfold qJ;by_cases d:m<l.qg.length/\leveled (l.qg.getD m ⟨false,0,0⟩)=true
 ·rw[zc d];have e:l.qg.getD m ⟨false,0,0⟩=l.qg[m]'d.1:=by simp[List.getD,d.1]
  rw[e] at d ⊢;rw[uv];by_cases b:l.qg[m].level=j/\l.qg[m].level<f.length
  ·rw[zc b];have:=u m d.1 d.2;rw[b.1] at this;exact⟨zf this,fun _=>this,fun q=>zC ⟨m,d.1,d.2,b.1⟩ q⟩
  ·rw[za b];refine⟨s,?_,r⟩;rintro⟨i,c,w,n,k⟩;by_cases h:i=m
   ·subst h;exact zC ⟨k,by rw[k,t];exact o⟩ b
   ·exact p ⟨i,c,by omega,n,k⟩
 ·rw[za d];refine⟨s,?_,r⟩;rintro⟨i,c,w,n,k⟩;by_cases h:i=m
  ·subst h;exact zC ⟨c,by simpa [List.getD,c] using n⟩ d
  ·exact p ⟨i,c,by omega,n,k⟩
theorem L5(h:qK l a W){g:Nat->Nat}(d:∀i (b:i<l.qg.length),leveled l.qg[i]=true->row.getD i 0=g l.qg[i].level)(j:Nat)(c:j<3):((∃i,∃b:i<l.qg.length,leveled l.qg[i]=true/\l.qg[i].level=j)->(uq l row).getD j 0=g j)/\((¬∃i,∃b:i<l.qg.length,leveled l.qg[i]=true/\l.qg[i].level=j)->(uq l row).getD j 0=0):=by
 have n:∀j,j<3->((([0,0,0]:zm).getD j 0=g j∨([0,0,0]:zm).getD j 0=0)/\((∃i,∃b:i<l.qg.length,i<0/\leveled l.qg[i]=true/\l.qg[i].level=j)->([0,0,0]:zm).getD j 0=g j)/\((¬∃i,∃b:i<l.qg.length,leveled l.qg[i]=true/\l.qg[i].level=j)->([0,0,0]:zm).getD j 0=0)):=by
  intro j c;have e:([0,0,0]:zm).getD j 0=0:=by
   match j,c with
   |0,_=>rfl
   |1,_=>rfl
   |2,_=>rfl
  exact⟨zb e,fun⟨i,_,q,_⟩=>by omega,fun _=>e⟩
 have m:=oV d rfl n;have s:=oV d (by rw[pJ];rfl) m;have o:=oV d (by rw[pJ,pJ];rfl) s;obtain⟨_,r,f⟩:=o j c;refine⟨fun⟨i,b,p,k⟩=>r ⟨i,b,?_,p,k⟩,f⟩;have:=h.len;have:=h.le3;omega
theorem El(h:qK l a W){f:zm}:x6 l row=some f↔f=uq l row/\∀i (b:i<l.qg.length),j5 l.qg[i] (row.getD i 0) (uq l row)=true:=by
 have c:(xu l row (uq l row) 0&&xu l row (uq l row) 1&&xu l row (uq l row) 2)=true↔∀i (b:i<l.qg.length),j5 l.qg[i] (row.getD i 0) (uq l row)=true:=by
  have g:∀i,xu l row (uq l row) i=true↔∀b:i<l.qg.length,j5 l.qg[i] (row.getD i 0) (uq l row)=true:=by
   intro i;unfold xu;simp only[dX,decide_eq_true_eq];constructor
   ·rintro(q|q) b
    ·omega
    ·simpa [List.getD,b] using q
   ·intro q;by_cases b:i<l.qg.length
    ·exact zb (by simpa [List.getD,b] using q b)
    ·exact zf (by omega)
  simp only[ux,g];constructor
  ·rintro⟨⟨j,m⟩,k⟩ i b;have:=h.len;have:=h.le3;have e:i=0∨i=1∨i=2:=by omega
   rcases e with rfl|rfl|rfl
   ·exact j b
   ·exact m b
   ·exact k b
  ·intro q;exact⟨⟨fun b=>q 0 b,fun b=>q 1 b⟩,fun b=>q 2 b⟩
 unfold x6;by_cases d:(xu l row (uq l row) 0&&xu l row (uq l row) 1&&xu l row (uq l row) 2)=true
 ·rw[zc d];simp only[zt];exact⟨fun q=>⟨q.symm,c.1 d⟩,fun q=>q.1.symm⟩
 ·rw[za d];constructor
  ·intro q;cases q
  ·intro q;exact zC (c.2 q.2) d
theorem Io{l:List Nat}(h:l.Nodup){i j:Nat}(c:i<l.length)(b:j<l.length)(e:l[i]=l[j]):i=j:=by
 have d:=wM.1 h;rcases p5 i j with q|q|q
 ·exact zC e (d i j c b q)
 ·exact q
 ·exact zC e.symm (d j i b c q)
theorem MJ(h:qK l a W)(y:List Nat):∃f,x6 l (zF l y)=some f/\f.length=3/\f.take (yO l)=yn l y 5/\∀j,yO l<=j->f.getD j 0=0:=by
 have r:∀i (b:i<l.qg.length),(zF l y).getD i 0=RP l.qg[i] y:=fun i b=>by
  have:=h.len;have:=h.le3;rw[ir l y (by omega)];unfold Q7;simp[List.getD,b]
 have x:∀i (b:i<l.qg.length),leveled l.qg[i]=true->(zF l y).getD i 0=(yn l y 5).getD l.qg[i].level 0:=fun i b c=>by
  have n:=zs b;rw[h.leveled n] at c;obtain⟨p,m⟩:=h.lev _ n c;rw[r i b];unfold RP;rw[zc (by simp[c,p])];have:=wP m p;unfold yn;simp[List.getD,this]
 have s:=fun j d=>L5 h (row:=zF l y) (g:=fun j=>(yn l y 5).getD j 0) x j d;have q:∀i (b:i<l.qg.length),leveled l.qg[i]=true->l.qg[i].level<yO l:=fun i b c=>by
  have n:=zs b;rw[h.leveled n] at c;obtain⟨p,m⟩:=h.lev _ n c;exact ef m p
 have H:=og h;have o:∀j,yO l<=j->(uq l (zF l y)).getD j 0=0:=fun j d=>by
  by_cases G:j<3
  ·exact(s j G).2 fun⟨i,b,E,J⟩=>by have:=q i b E;omega
  ·have:=rJ l (zF l y);simp[List.getD,List.getElem?_eq_none (show(uq l (zF l y)).length<=j by omega)]
 have k:∀j,j<yO l->(uq l (zF l y)).getD j 0=(yn l y 5).getD j 0:=fun j d=>by
  refine(s j (by omega)).1 ?_;rw[f9] at d;have z:=zs d;obtain⟨I,F⟩:=(pK l 5 _).1 z;obtain⟨t,u,w,A⟩:=(fK l _).1 F;obtain⟨i,b,rfl⟩:=qa u;refine⟨i,b,by rw[h.leveled u];exact w,?_⟩;obtain⟨B,C⟩:=h.lev _ u w;have:=wP C B;rw[A] at this;obtain⟨D,e⟩:=jM.1 this;exact Io (List.nodup_range.filter _:(y9 l 5).Nodup) D d e
 refine⟨uq l (zF l y),(El h).2 ⟨rfl,fun i b=>?_⟩,rJ _ _,?_,o⟩
 ·unfold j5;have n:=zs b;cases c:leveled l.qg[i] with
  |true=>
   rw[zc rfl,k _ (q i b c),x i b c];simp
  |false=>
   rw[za (by simp),r i b];rw[h.leveled n] at c;unfold RP;rw[za (by simp[c])];simp
 ·refine kP (by rw[qt,rJ,nN,←f9];omega) fun j p m=>?_;have d:j<yO l:=by rw[nN,←f9] at m;exact m
  have:=k j d;have v:j<(uq l (zF l y)).length:=by rw[rJ];omega
  simp only[List.getD,yq v,yq m,ur] at this;rw[List.getElem_take];exact this
theorem Fb(h:qK l a W){f:zm}(t:QN a row)(q:x6 l row=some f)(y:List Nat)(p:f.take (yO l)=yn l y 5):row=zF l y:=by
 obtain⟨rfl,n⟩:=(El h).1 q;refine BA t (tJ h y) fun i r s=>?_;have c:i<l.qg.length:=by rw[h.len];exact r
 have b:=zs c;have d:=n i c;rw[ir l y s];unfold Q7;rw[zc c,show l.qg.getD i ⟨false,0,0⟩=l.qg[i] by simp[List.getD,c]];unfold j5 at d;unfold RP;cases g:leveled l.qg[i] with
 |true=>
  rw[g,zc rfl] at d;rw[h.leveled b] at g;obtain⟨j,o⟩:=h.lev _ b g;rw[zc (by simp[g,j])];have m:=ef o j;have k:=wP o j;have e:(uq l row).getD l.qg[i].level 0=((uq l row).take (yO l)).getD l.qg[i].level 0:=by
   simp[List.getD,m]
  rw[e,p] at d;unfold yn at d;simp only[List.getD,lH,k,jy,ur,beq_iff_eq] at d;exact d.symm
 |false=>
  rw[g,za (by simp)] at d;rw[h.leveled b] at g;rw[za (by simp[g])];exact(by simpa using d:l.qg[i].num=row.getD i 0).symm
end
section
variable {W:Nat}{row:zm}{l:zu}{T:zi}
def Ra(W:Nat)(row:zm):Prop:=∀v∈row,v<W
theorem Kg(h:Ra W row)(b:0<W)(i:Nat):row.getD i 0<W:=by
 by_cases a:i<row.length
 ·rw[show row.getD i 0=row[i] by simp[List.getD,a]];exact h _ (zs a)
 ·rw[show row.getD i 0=0 by simp[List.getD,a]];exact b
theorem oe{f:zm}(b:0<W)(d:Ra W row)(a:Ra W f)(i:Nat):Ra W (qJ l row f i):=by
 unfold qJ;split
 ·intro v c;rcases p3 c with q|q
  ·exact a v q
  ·rw[q];exact Kg d b i
 ·exact a
theorem H8{f:zm}(b:0<W)(c:Ra W row)(a:x6 l row=some f):f.length=3/\Ra W f:=by
 unfold x6 at a;split at a
 ·simp only[zt] at a;rw[←a];refine⟨rJ l row,?_⟩;unfold uq;have d:Ra W [0,0,0]:=by intro v e;simp at e;omega
  exact oe b c (oe b c (oe b c d 0) 1) 2
 ·cases a
theorem AQ(T:zi)(row:zm):ld T row=true↔Ra T.qf row:=by simp[ld,Ra]
theorem iM:∀(rs:List zm) (T:zi),vH T->(∀r∈rs,r.length=3/\Ra T.qf r)->T.count+rs.length<=9000000->∃a,xz rs T=some a/\vH a/\a.qf=T.qf/\a.ql=T.ql/\a.count<=T.count+rs.length/\∀k,k.length=T.ql->((xY a k).isSome=true↔(xY T k).isSome=true∨∃r∈rs,r.take T.ql=k)
 |[],T,h,_,_=>⟨T,rfl,h,rfl,rfl,by simp,fun k _=>by simp⟩
 |r::rs,T,h,j,n=>by
  simp only[xd] at n;obtain⟨u,t⟩:=j r (by simp);obtain⟨p,g,d,E,A,z,B⟩:=h.add r 0 u ((AQ T r).2 t);have f:(addP T r 0).1.count<=T.count+1:=by
   cases m:(addP T r 0).2 with
   |false=>rw[A m];omega
   |true=>rw[z m];exact zg _
  obtain⟨a,w,o,C,v,D,s⟩:=iM rs (addP T r 0).1 p (fun x y=>by rw[g];exact j x (by simp[y])) (by omega);unfold xz;rw[zc (h.okT (by omega))];refine⟨a,w,o,by rw[C,g],by rw[v,d],by simp only[xd];omega,fun k i=>?_⟩;rw[s k (by rw[d];exact i),B k i,d];by_cases e:k=r.take T.ql
  ·subst e;simp
  ·rw[za e];constructor
   ·rintro(q|⟨x,b,c⟩)
    ·exact zf q
    ·exact zb ⟨x,by simp[b],c⟩
   ·rintro(q|⟨x,b,c⟩)
    ·exact zf q
    ·rcases zx.1 b with rfl|b
     ·exact zC c.symm e
     ·exact zb ⟨x,b,c⟩
structure uU (T:zi) (l:zu) (W:Nat) (P:zm->Prop):Prop where
 ok:vH T
 qf:T.qf=W
 ql:T.ql=yY (yO l)
 sem:∀k,k.length=T.ql->((xY T k).isSome=true↔∃row f,P row/\x6 l row=some f/\f.take T.ql=k)
theorem uU.congr{P Q:zm->Prop}(h:uU T l W P)(e:∀x,P x↔Q x):uU T l W Q:=
 ⟨h.ok,h.qf,h.ql,fun k a=>by rw[h.sem k a];exact⟨fun⟨r,f,q⟩=>⟨r,f,(e r).1 q.1,q.2⟩,fun⟨r,f,q⟩=>⟨r,f,(e r).2 q.1,q.2⟩⟩⟩
theorem uU.new(l:zu)(w W:Nat)(b:W=zM w):uU (yS w (yO l)) l W (fun _=>False):=by
 refine⟨vH.new _ _,by rw[Em,b],p6 _ _,fun k a=>?_⟩;constructor
 ·intro q;rw[tr _ _ k (by rintro rfl;have:=(fX (yO l)).1;rw[p6] at a;simp at a;omega)] at q;cases q
 ·rintro⟨_,_,q,_⟩;exact q.elim
theorem uU.adds{P:zm->Prop}(h:uU T l W P)(q:0<W)(a:List zm)(hs:∀r∈a,Ra W r)(v:T.count+a.length<=9000000):∃d,xz (a.filterMap (x6 l)) T=some d/\uU d l W (fun x=>P x∨x∈a)/\d.count<=T.count+a.length:=by
 have n:(a.filterMap (x6 l)).length<=a.length:=sd _ _;obtain⟨d,p,s,o,i,w,t⟩:=iM (a.filterMap (x6 l)) T h.ok (fun r u=>by
  obtain⟨x,m,g⟩:=mQ.1 u;rw[h.qf];exact H8 q (hs x m) g) (by omega)
 refine⟨d,p,⟨s,by rw[o,h.qf],by rw[i,h.ql],fun k j=>?_⟩,by omega⟩;rw[i] at j;rw[t k j,h.sem k j,i];constructor
 ·rintro(⟨r,f,b,c,e⟩|⟨f,b,c⟩)
  ·exact⟨r,f,zf b,c,e⟩
  ·obtain⟨x,m,g⟩:=mQ.1 b;exact⟨x,f,zb m,g,c⟩
 ·rintro⟨r,f,b|b,c,e⟩
  ·exact zf ⟨r,f,b,c,e⟩
  ·exact zb ⟨f,mQ.2 ⟨r,b,c⟩,e⟩
theorem DL{k:zm}{d:Nat}(h:k.length=d)(a:d<=3):(RM k d).length=3:=by simp[RM,h];omega
theorem r5{k:zm}{d:Nat}(h:k.length=d):(RM k d).take d=k:=by simp[RM,←h]
theorem Ct{k:zm}{d:Nat}(b:0<W)(h:Ra W k):Ra W (RM k d):=by
 intro v a;unfold RM at a;rcases zI.1 a with q|q
 ·exact h v q
 ·have:=dK q;simp at this;omega
theorem uU.join{U:zi}{P Q:zm->Prop}(h:uU T l W P)(k:uU U l W Q)(o:0<W)(E:T.count+U.count<=9000000):∃c,xz ((Rg U).map fun x=>RM x U.ql) T=some c/\uU c l W (fun x=>P x∨Q x)/\c.count<=T.count+U.count:=by
 have e:U.ql=T.ql:=by rw[h.ql,k.ql]
 have D:T.ql<=3:=by rw[h.ql];exact(fX _).2
 obtain⟨c,n,p,s,i,C,z⟩:=iM ((Rg U).map fun x=>RM x U.ql) T h.ok (fun r q=>by
  obtain⟨x,j,rfl⟩:=zy.1 q;obtain⟨a,b⟩:=(qY U x).1 j;refine⟨DL a (by omega),?_⟩;rw[h.qf];refine Ct o ?_;intro v w;have:=tN x 0 b v w;rw[k.qf] at this;exact this) (by simp[k.ok.cnt];omega)
 refine⟨c,n,⟨p,by rw[s,h.qf],by rw[i,h.ql],fun y g=>?_⟩,by simpa [k.ok.cnt] using C⟩;rw[i] at g;rw[z y g,h.sem y g,i];constructor
 ·rintro(⟨r,f,a,b,d⟩|⟨r,a,b⟩)
  ·exact⟨r,f,zf a,b,d⟩
  ·obtain⟨x,j,rfl⟩:=zy.1 a;obtain⟨m,A⟩:=(qY U x).1 j;rw[←e,r5 m] at b;subst b;obtain⟨r,f,u,B,t⟩:=(k.sem x m).1 A;exact⟨r,f,zb u,B,by rw[←e];exact t⟩
 ·rintro⟨r,f,a|a,b,d⟩
  ·exact zf ⟨r,f,a,b,d⟩
  ·refine zb ⟨RM y U.ql,zy.2 ⟨y,(qY U y).2 ⟨by omega,(k.sem y (by omega)).2 ⟨r,f,a,b,by rw[e];exact d⟩⟩,rfl⟩,?_⟩;rw[←e,r5 (by omega)]
theorem uU.sat{a D:Nat}{P:zm->Prop}(h:uU T l W P)(j:qK l a D)(u:∀x,P x->QN a x)(y:List Nat):sR T l y↔P (zF l y):=by
 obtain⟨f,v,w,z,G⟩:=MJ j y;have t:=og j;by_cases b:yO l=0
 ·have i:T.ql=1:=by rw[h.ql,b];rfl
  have A:yn l y 5=[]:=mF.1 (by rw[nN,←f9];exact b);constructor
  ·intro o;have m:=o.1 b;rw[←h.ok.cnt] at m;obtain⟨k,C⟩:=List.exists_mem_of_length_pos (Nat.pos_of_ne_zero m);obtain⟨B,E⟩:=(qY T k).1 C;obtain⟨r,g,d,p,n⟩:=(h.sem k B).1 E;have:=Fb j (u r d) p y (by rw[b,A];rfl);rw[←this];exact d
  ·intro c;refine⟨fun _ m=>?_,fun q=>zC b q⟩;have:(xY T (f.take T.ql)).isSome=true:=(h.sem _ (by rw[qt,w,i];rfl)).2 ⟨_,f,c,v,rfl⟩;have F:=(qY T _).2 ⟨by rw[qt,w,i];rfl,this⟩;have:=m7 F;rw[h.ok.cnt] at this;omega
 ·have s:T.ql=yO l:=by rw[h.ql,te b t]
  have e:(yn l y 5).length=T.ql:=by rw[nN,←f9,s]
  constructor
  ·intro o;obtain⟨r,g,d,p,n⟩:=(h.sem _ e).1 (o.2 b);rw[s] at n;have:=Fb j (u r d) p y n;rw[←this];exact d
  ·intro c;exact⟨fun q=>zC q b,fun _=>(h.sem _ e).2 ⟨_,f,c,v,by rw[s];exact z⟩⟩
structure n5 (V:yA) (l:zu) (W:Nat) (P0 P1:zm->Prop) (Pf:zm->Prop) (c:Nat):Prop where
 lit:V.lit=l
 before:uU V.before l W P0
 qo:uU V.qo l W Pf
 all:uU V.all l W P1
 few:V.before.count+V.qo.count<=c/\V.all.count<=c
theorem EQ{V:yA}{w:Nat}{m j n:zm->Prop}{c:Nat}(h:n5 V l W m j n c)(i:W=zM w)(d:List zm)(hs:∀r∈d,Ra W r)(z:c+d.length<=1048576)(e:Nat)(t:3*(W+1)<=e):∃k,dN e w V d=some k/\n5 k l W (fun x=>m x∨n x) (fun x=>j x∨x∈d) (fun x=>x∈d) (c+d.length):=by
 have g:0<W:=by rw[i];unfold zM;split<;>omega
 have s:=h.qo.ok.rowsG e (by rw[h.qo.qf];exact t) (by have:=h.few.1;omega);obtain⟨b,y,o,F⟩:=h.before.join h.qo g (by have:=h.few.1;omega);obtain⟨f,u,v,B⟩:=(uU.new l w W i).adds g d hs (by simp[yS,yx];omega);obtain⟨a,p,q,C⟩:=h.all.adds g d hs (by have:=h.few.2;omega);refine⟨{V with before:=b,qo:=f,all:=a},?_,h.lit,o,v.congr (fun x=>by simp),q,?_⟩
 ·unfold dN;rw[s,h.lit];simp only[y,u,p]
 ·have D:=h.few.1;have A:=h.few.2;have E:(yS w (yO l)).count=0:=rfl;simp only;omega
end
section
open Classical
abbrev DB:=Nat->zm->Option Nat
noncomputable def zyl(ar:List Nat)(R:z7):DB:=fun p row=>if p<ar.length/\QN (ar.getD p 0) row then uo (R.rows.getD p zi.zero) row else none
structure jr (ar:List Nat) (W:Nat) (R:z7):Prop where
 len:R.rows.length=ar.length
 tries:∀p (hp:p<R.rows.length),vH R.rows[p]/\R.rows[p].qf=W/\R.rows[p].ql=yY (ar.getD p 0)/\∀k∈Rg R.rows[p],QN (ar.getD p 0) (RM k R.rows[p].ql)
 cnt:R.count=(R.rows.map (·.count)).sum
theorem Ot(l:List zi):∀(p:Nat) (T:zi) (b:p<l.length),((l.set p T).map (·.count)).sum+l[p].count=(l.map (·.count)).sum+T.count:=by
 induction l with
 |nil=>intro p T b;simp at b
 |cons a l c=>
  intro p T b;cases p with
  |zero=>simp;omega
  |succ p=>
   have:=c p T (by simpa using b);simp at this ⊢;omega
theorem oF(l:List zi):∀(p:Nat) (b:p<l.length),l[p].count<=(l.map (·.count)).sum:=by
 induction l with
 |nil=>intro p b;simp at b
 |cons a l c=>
  intro p b;cases p with
  |zero=>simp
  |succ p=>
   have:=c p (by simpa using b);simp at this ⊢;omega
theorem KY{a:Nat}(d:a<=3){x y:zm}(f:QN a x)(b:QN a y)(e:x.take (yY a)=y.take (yY a)):x=y:=by
 refine BA f b fun i c h=>?_;have g:i<yY a:=by rw[te (by omega) d];exact c
 have:=congrArg (fun l=>l.getD i 0) e;simpa [List.getD,List.getElem?_take,g] using this
theorem Ep{a:Nat}(h:a<=3){x:zm}(e:QN a x):RM (x.take (yY a)) (yY a)=x:=by
 have g:a<=yY a:=by
  by_cases k:a=0
  ·omega
  ·rw[te k h];exact zg _
 show x.take (yY a)++([0,0,0]:zm).drop (yY a)=x;have b:=e.1;refine kP (by simp[b];omega) fun i o n=>?_;have l:=fun i (f:yY a<=i)=>e.2 i (by omega);by_cases f:i<yY a
 ·rw[vq (by simp[b];omega)];simp
 ·rw[mt (by simp;omega)];have m:x[i]=0:=by have:=l i (by omega);simpa [List.getD,n] using this
  rw[m];simp only[List.getElem_drop];have:∀j (d:j<([0,0,0]:List Nat).length),([0,0,0]:List Nat)[j]=0:=by
   intro j d;have c:j=0∨j=1∨j=2:=by simp at d;omega
   rcases c with rfl|rfl|rfl<;>rfl
  exact this _ _
structure Ry (ar:List Nat) (W k:Nat) (D0:DB) (c0:List Nat) (R:z7):Prop where
 inv:jr ar W R
 qw:R.qw=k
 flen:R.qo.length=ar.length
 qo:∀p (hp:p<R.qo.length),R.qo[p].Nodup/\∀row∈R.qo[p],QN (ar.getD p 0) row/\Ra W row/\D0 p row=none
 abs:∀p row,zyl ar R p row=match D0 p row with
  |some m=>some m
  |none=>if row∈R.qo.getD p [] then some k else none
 cnts:∀p (hp:p<R.rows.length),R.rows[p].count=c0.getD p 0+(R.qo.getD p []).length
theorem QB{α:Type}{l:List α}{i:Nat}(d:α)(h:i<l.length):l.getD i d=l[i]:=by simp[List.getD,h]
theorem mB{α:Type}(l:List α)(i j:Nat)(v d:α):(l.set i v).getD j d=if i=j/\i<l.length then v else l.getD j d:=by
 simp only[gs,rF];by_cases h:i=j
 ·subst h;by_cases a:i<l.length
  ·simp[a]
  ·simp[a]
 ·simp[h]
theorem Ry.add{g:List Nat}{W k:Nat}{D0:DB}{c0:List Nat}{R:z7}(h:Ry g W k D0 c0 R)(h3:∀a∈g,a<=3){p:Nat}(F:p<g.length){row:zm}(w:QN (g.getD p 0) row)(hs:Ra W row){mr:Nat}(hc:R.count<=mr)(hm:mr<=1048576):
  ∃D ok,addR mr R p row=some (D,ok)/\Ry g W k D0 c0 D/\D.jf=R.jf/\(zyl g D p row).isSome=true/\(∀q x,x∈R.qo.getD q []->x∈D.qo.getD q [])/\(∀q x,x∈D.qo.getD q []->x∈R.qo.getD q []∨q=p/\x=row)/\(ok=true->D.count<=mr)/\(ok=false->D.count>mr):=by
 have f:p<R.rows.length:=by rw[h.inv.len];exact F
 have A:p<R.qo.length:=by rw[h.flen];exact F
 obtain⟨Q,t2,H,t4⟩:=h.inv.tries p f;have N:g.getD p 0<=3:=by rw[QB _ F];exact h3 _ (zs F)
 have aa:=oF R.rows p f;rw[←h.inv.cnt] at aa;have U:=h.cnts p f;have I:=(AQ R.rows[p] row).2 (by rw[t2];exact hs);obtain⟨O,S,J,L,a5,Y,P⟩:=Q.add row R.qw w.1 I;have ad:(row.take R.rows[p].ql).length=R.rows[p].ql:=by
  rw[qt,w.1,H];have:=(fX (g.getD p 0)).2;omega
 have K:=fun x (i:QN (g.getD p 0) x)=>Q.mark x i.1;have v:R.rows.getD p zi.zero=R.rows[p]:=QB _ f;have l:zyl g R p row=xY R.rows[p] (row.take R.rows[p].ql):=by
  unfold zyl;rw[zc ⟨F,w⟩,v,K row w]
 unfold addR;rw[zc ⟨f,A,by rw[v];exact Q.okT (by omega),by omega,by omega⟩,v];cases hA:addP R.rows[p] row R.qw with
 |mk T b=>
  rw[hA] at O S J L a5 Y P;simp only at O S J L a5 Y P;cases b with
  |false=>
   have hT:=a5 rfl;subst hT;have B:=rc f;refine⟨{R with rows:=R.rows.set p R.rows[p]},true,rfl,?_,rfl,?_,fun q x i=>i,fun q x i=>zf i,fun _=>hc,fun q=>by cases q⟩
   ·rw[B];exact h
   ·rw[B];show(zyl g R p row).isSome=true;rw[l];rw[←Option.not_isNone,←L];rfl
  |true=>
   have r:xY R.rows[p] (row.take R.rows[p].ql)=none:=by
    cases j:xY R.rows[p] (row.take R.rows[p].ql) with
    |none=>rfl
    |some m=>rw[j] at L;cases L
   have u:D0 p row=none/\row∉R.qo.getD p []:=by
    have:=h.abs p row;rw[l,r] at this;cases j:D0 p row with
    |some m=>rw[j] at this;cases this
    |none=>
     rw[j] at this;refine⟨rfl,fun V=>?_⟩;simp only at this;rw[zc V] at this;cases this
   have M:R.qo.getD p []=R.qo[p]:=QB _ A;have ac:=Ot R.rows p T f;have E:=Y rfl;have ab:(R.rows.set p T).length=R.rows.length:=by simp
   have hinv:jr g W {R with rows:=R.rows.set p T,qo:=R.qo.set p (R.qo.getD p []++[row]),count:=R.count+1}:=by
    refine⟨by simp[h.inv.len],fun q j=>?_,?_⟩
    ·simp only[fA] at j;simp only[lC];by_cases e:p=q
     ·subst e;simp only[if_true];refine⟨O,by rw[S,t2],by rw[J,H],fun x i=>?_⟩;obtain⟨X,Z⟩:=(qY T x).1 i;rw[J] at X ⊢;rw[P x X] at Z;by_cases G:x=row.take R.rows[p].ql
      ·rw[G,H,Ep N w];exact w
      ·rw[za G] at Z;exact t4 x ((qY R.rows[p] x).2 ⟨X,Z⟩)
     ·simp only[e,if_false];exact h.inv.tries q j
    ·show R.count+1=((R.rows.set p T).map (·.count)).sum;rw[h.inv.cnt];omega
   have n:∀q,(R.rows.set p T).getD q zi.zero=if p=q then T else R.rows.getD q zi.zero:=fun q=>by
    rw[mB];by_cases e:p=q
    ·rw[zc ⟨e,f⟩,zc e]
    ·rw[za (fun x=>e x.1),za e]
   have c:∀q,(R.qo.set p (R.qo.getD p []++[row])).getD q []=if p=q then R.qo.getD p []++[row] else R.qo.getD q []:=fun q=>by
    rw[mB];by_cases e:p=q
    ·rw[zc ⟨e,A⟩,zc e]
    ·rw[za (fun x=>e x.1),za e]
   have o:∀q x,zyl g {R with rows:=R.rows.set p T,qo:=R.qo.set p (R.qo.getD p []++[row]),count:=R.count+1} q x=if q=p/\x=row then some k else zyl g R q x:=by
    intro q x;unfold zyl;simp only[n];by_cases e:p=q
    ·subst e;simp only[if_true,true_and];by_cases d:p<g.length/\QN (g.getD p 0) x
     ·rw[zc d,zc d,v,K x d.2,O.mark x d.2.1,J,P _ (by rw[qt,d.2.1,H];have:=(fX (g.getD p 0)).2;omega)];by_cases G:x=row
      ·subst G;rw[zc rfl,zc rfl,r,h.qw];rfl
      ·rw[za G,za];intro C;rw[H] at C;exact G (KY N d.2 w C)
     ·rw[za d,za d,za];rintro rfl;exact d ⟨F,w⟩
    ·simp only[e,if_false];rw[za (fun z:q=p/\x=row=>e z.1.symm)]
   refine⟨{R with rows:=R.rows.set p T,qo:=R.qo.set p (R.qo.getD p []++[row]),count:=R.count+1},decide (R.count+1<=mr),rfl,⟨hinv,h.qw,by simp[h.flen],fun q j=>?_,fun q x=>?_,fun q j=>?_⟩,rfl,?_,fun q x i=>?_,fun q x i=>?_,fun q=>by simpa using q,fun q=>by simpa using q⟩
   ·have t:q<R.qo.length:=by simpa using j
    have e:(R.qo.set p (R.qo.getD p []++[row]))[q]=(R.qo.set p (R.qo.getD p []++[row])).getD q []:=(QB _ j).symm;show((R.qo.set p (R.qo.getD p []++[row]))[q]).Nodup/\_;rw[e,c q];by_cases C:p=q
    ·subst C;rw[zc rfl,M];obtain⟨n1,n2⟩:=h.qo p A;rw[M] at u;refine⟨?_,fun x i=>?_⟩
     ·rw[qq];exact⟨n1,by simp,fun x i y hy=>by simp at hy;subst hy;rintro rfl;exact u.2 i⟩
     ·rcases zI.1 i with q|q
      ·exact n2 x q
      ·simp at q;subst q;exact⟨w,hs,u.1⟩
    ·rw[za C,QB _ t];exact h.qo q t
   ·rw[o];show _=match D0 q x with|some m=>some m|none=>if x∈(R.qo.set p (R.qo.getD p []++[row])).getD q [] then some k else none
    rw[c q,h.abs q x];by_cases e:q=p/\x=row
    ·obtain⟨rfl,rfl⟩:=e;rw[zc ⟨rfl,rfl⟩,u.1];simp
    ·rw[za e];cases D0 q x with
     |some m=>rfl
     |none=>
      simp only;by_cases C:p=q
      ·subst C;rw[zc rfl];have:x≠row:=fun e3=>e ⟨rfl,e3⟩;simp[this]
      ·rw[za C]
   ·have t:q<R.rows.length:=by simpa using j
    show(R.rows.set p T)[q].count=c0.getD q 0+((R.qo.set p (R.qo.getD p []++[row])).getD q []).length;rw[c q,←QB zi.zero j,n q];by_cases e:p=q
    ·subst e;rw[zc rfl,zc rfl,E,U];simp;omega
    ·rw[za e,za e,QB _ t];exact h.cnts q t
   ·rw[o,zc ⟨rfl,rfl⟩];rfl
   ·show x∈(R.qo.set p (R.qo.getD p []++[row])).getD q [];rw[c q];by_cases e:p=q
    ·subst e;rw[zc rfl];exact List.mem_append_left _ i
    ·rw[za e];exact i
   ·have s:x∈(R.qo.set p (R.qo.getD p []++[row])).getD q []:=i;rw[c q] at s;by_cases e:p=q
    ·subst e;rw[zc rfl] at s;rcases zI.1 s with q|q
     ·exact zf q
     ·simp at q;exact zb ⟨rfl,q⟩
    ·rw[za e] at s;exact zf s
end
section
open Classical
variable {Ts Ns:List zi}{W:Nat}
theorem PP{r:zr}(d:gY r)(e:dO r Ts W){y:List Nat}(f:js r Ts Ns y){p:Nat}(g:p<r.vars):y.getD p 0<W:=by
 obtain⟨l,h,m⟩:=d.safe p g;obtain⟨i,c,rfl⟩:=qa h;have b:i<Ts.length:=by rw[e.len];exact c
 obtain⟨_,_,o⟩:=e.ok i _ _ (yq c) (yq b);have n:=d.vars;have a:=(pK _ 5 p).2 ⟨by omega,m⟩;have k:yO r.qc[i]≠0:=by
  rw[f9];intro q;rw[mF.1 q] at a;cases a
 have j:=(f.1 i _ _ (yq c) (yq b)).2 k;have:=tN _ 0 j (y.getD p 0) (zy.2 ⟨p,a,rfl⟩);omega
theorem Dm{l:zu}{a:Nat}(h:qK l a W)(j:0<W){y:List Nat}(g:∀p,zH l p=true->y.getD p 0<W):Ra W (zF l y):=by
 have f:∀i,Q7 l y i<W:=by
  intro i;unfold Q7;split
  ·rename_i e;rw[show l.qg.getD i ⟨false,0,0⟩=l.qg[i] by simp[List.getD,e]];have d:=zs e;unfold RP;split
   ·rename_i b;simp only[ux,decide_eq_true_eq] at b;exact g _ ((fK l _).2 ⟨_,d,b.1,rfl⟩)
   ·rename_i b;cases c:l.qg[i].var with
    |true=>
     have:=(h.lev _ d c).1;simp[c,this] at b
    |false=>exact h.con _ d c
  ·exact j
 intro v b;simp only[zF,zx,ff,or_false] at b;rcases b with rfl|rfl|rfl<;>exact f _
theorem n6.mono{r:zr}{E g:zm->Prop}{J:z9}{M:Nat}(h:n6 r Ts Ns W E J M)(i:∀x,E x->g x):n6 r Ts Ns W g J M:=by
 rcases h with⟨b,e,c⟩|⟨k,d,f,b,e,c,m,l,j⟩
 ·exact zf ⟨b,e,fun y a=>i _ (c y a)⟩
 ·exact zb ⟨k,d,f,b,e,c,m,fun y a=>(l y a).imp (i _) id,j⟩
theorem Ry.jf{a:List Nat}{W k:Nat}{D0:DB}{c0:List Nat}{R:z7}(h:Ry a W k D0 c0 R)(m:Int):Ry a W k D0 c0 {R with jf:=m}:=
 ⟨⟨h.inv.len,h.inv.tries,h.inv.cnt⟩,h.qw,h.flen,h.qo,h.abs,h.cnts⟩
theorem Ry.grow{b:List Nat}{k:Nat}{D0:DB}{c0:List Nat}{R R':z7}(h:Ry b W k D0 c0 R)(f:Ry b W k D0 c0 R')(e:∀q x,x∈R.qo.getD q []->x∈R'.qo.getD q []){p:Nat}{x:zm}(a:(zyl b R p x).isSome=true):(zyl b R' p x).isSome=true:=by
 rw[h.abs] at a;rw[f.abs];cases d:D0 p x with
 |some m=>rfl
 |none=>
  rw[d] at a;simp only at a ⊢;by_cases c:x∈R.qo.getD p []
  ·rw[zc (e p x c)];rfl
  ·rw[za c] at a;cases a
structure By (ar:List Nat) (W k:Nat) (D0:DB) (c0:List Nat) (p mr:Nat) (sol:zm->Prop) (R R':z7) (ok:Bool):Prop where
 mid:Ry ar W k D0 c0 R'
 mono:∀q x,x∈R.qo.getD q []->x∈R'.qo.getD q []
 sound:∀q x,x∈R'.qo.getD q []->x∈R.qo.getD q []∨q=p/\sol x
 yes:ok=true->R'.count<=mr/\∀x,sol x->(zyl ar R' p x).isSome=true
 no:ok=false->R'.count>mr
theorem Kf{d:List Nat}{k:Nat}{D0:DB}{c0:List Nat}{r:zr}(l:gY r)(C:dO r Ts W)(Z:∀a∈d,a<=3)(L:0<W)(G:r.head.pred<d.length)(F:qK r.head (d.getD r.head.pred 0) W)(A:Nat)(V:W*(r.qc.length+1)+r.qc.length<=A){mr:Nat}(s:mr<=1048576):
  ∀(n:Nat) (R:z7) (J:z9) (M:Nat),Ry d W k D0 c0 R->R.count<=mr->n6 r Ts Ns W (fun x=>(zyl d R r.head.pred x).isSome=true) J M->M+A+2<n->∃E ok,vC mr r.head.pred n R J=some (E,ok)/\By d W k D0 c0 r.head.pred mr (fun x=>∃y,js r Ts Ns y/\x=zF r.head y) R E ok:=by
 intro n;induction n with
 |zero=>intro R J M _ _ _ h;omega
 |succ n P=>
  intro R J M h w H hn;obtain⟨f,b,Y,I,n3⟩:=Mp l C _ A V n J M H (by omega);unfold vC;rw[Y];cases b with
  |false=>
   refine⟨_,true,rfl,h.jf _,fun q x c=>c,fun q x c=>zf c,fun _=>⟨w,?_⟩,fun q=>by cases q⟩;rintro x ⟨y,Q,rfl⟩;exact I rfl y Q
  |true=>
   obtain⟨j,O,X,m3,N⟩:=n3 rfl;simp only;rw[O];have t:=Dm F L fun p v=>PP l C j (l.head p v);obtain⟨B,ok,K,g,_,U,u,D,a7,a8⟩:=h.add Z G (tJ F f.ja) t w s;rw[K];cases ok with
   |false=>
    refine⟨B,false,rfl,g,u,fun q x c=>?_,(fun q=>by cases q),a8⟩;rcases D q x c with z|⟨i,m⟩
    ·exact zf z
    ·exact zb ⟨i,f.ja,j,m⟩
   |true=>
    simp only;obtain⟨S,o,T,e⟩:=P B f X g (a7 rfl) (N.mono fun x c=>by
     rcases c with q|q
     ·exact h.grow g u q
     ·rw[q];exact U) (by omega)
    refine⟨S,o,T,e.mid,fun q x c=>e.mono q x (u q x c),fun q x c=>?_,e.yes,e.no⟩;rcases e.sound q x c with z|z
    ·rcases D q x z with z|⟨i,m⟩
     ·exact zf z
     ·exact zb ⟨i,f.ja,j,m⟩
    ·exact zb z
end
section
open Classical
variable {r:zr}{ar c0:List Nat}{W wd mr:Nat}
def QF(D:DB)(p:Nat)(x:zm):Prop:=(D p x).isSome=true
def Sr(r:zr)(D:DB)(x:zm):Prop:=∃y,(∀l∈r.qc,QF D l.pred (zF l y))/\(∀l∈r.qp,D l.pred (zF l y)=none)/\x=zF r.head y
structure nP (r:zr) (ar:List Nat) (W:Nat):Prop where
 fine:gY r
 hpred:r.head.pred<ar.length
 head:qK r.head (ar.getD r.head.pred 0) W
 qc:∀l∈r.qc,l.pred<ar.length/\qK l (ar.getD l.pred 0) W
 qp:∀l∈r.qp,l.pred<ar.length/\qK l (ar.getD l.pred 0) W
def rq(ar:List Nat)(D:DB):Prop:=∀p x,QF D p x->p<ar.length/\QN (ar.getD p 0) x
theorem DA(ar:List Nat)(R:z7):rq ar (zyl ar R):=by
 intro p x h;unfold QF zyl at h;split at h
 ·assumption
 ·cases h
theorem E9(o:nP r ar W){R:z7}(q:jr ar W R){g:List zi}{P:Nat->zm->Prop}(d:g.length=r.qc.length)(p:∀(i:Nat) (l:zu) (T:zi),r.qc[i]?=some l->g[i]?=some T->uU T l W (P i)/\∀x,P i x->QN (ar.getD l.pred 0) x)(y:List Nat):
  js r g (qV wd R r) y↔(∀(i:Nat) (l:zu),r.qc[i]?=some l->P i (zF l y))/\∀l∈r.qp,zyl ar R l.pred (zF l y)=none:=by
 have b:∀l∈r.qp,uo (fT wd R l.pred) (zF l y)=zyl ar R l.pred (zF l y):=by
  intro l a;obtain⟨u,s⟩:=o.qp l a;unfold fT zyl;rw[za (by rw[q.len];omega),zc ⟨u,tJ s y⟩]
 unfold js qV;constructor
 ·rintro⟨j,n⟩;refine⟨fun i l a=>?_,fun l a=>?_⟩
  ·have f:i<g.length:=by rw[d];exact(jM.1 a).1
   obtain⟨k,h⟩:=p i l _ a (yq f);exact(k.sat (o.qc l (fm a)).2 h y).1 (j i l _ a (yq f))
  ·rw[←b l a];obtain⟨i,c,rfl⟩:=qa a;exact n (r.qp[i],fT wd R r.qp[i].pred) (vx.2 ⟨i,by simp[c],by simp⟩)
 ·rintro⟨j,n⟩;refine⟨fun i l T a m=>?_,fun x t=>?_⟩
  ·obtain⟨k,h⟩:=p i l T a m;exact(k.sat (o.qc l (fm a)).2 h y).2 (j i l a)
  ·obtain⟨i,c,rfl⟩:=vx.1 t;simp only[List.length_zip,uu] at c;have e:i<r.qp.length:=by omega
   simp only[List.getElem_zip,uM];rw[b _ (zs e)];exact n _ (zs e)
structure wT (ar:List Nat) (W:Nat) (w:zX) (r:zr) (D0 D:DB) (c:List Nat):Prop where
 rule:w.rule=r
 len:w.qm.length=r.qc.length
 qm:∀(i:Nat) (l:zu) (V:yA),r.qc[i]?=some l->w.qm[i]?=some V->n5 V l W (QF D0 l.pred) (QF D l.pred) (fun x=>QF D l.pred x/\¬QF D0 l.pred x) (c.getD l.pred 0)
def lr(W:Nat)(r:zr):Nat:=vF W r.vars 0 [] 0+(W*(r.qc.length+1)+r.qc.length)+3
theorem B0{k:Nat}{D:DB}(g:nP r ar W)(J:∀a∈ar,a<=3)(G:0<W)(p:mr<=1048576){R:z7}(s:Ry ar W k D c0 R)(E:R.count<=mr){h:List zi}{P:Nat->zm->Prop}(c:h.length=r.qc.length)(w:∀(i:Nat) (l:zu) (T:zi),r.qc[i]?=some l->h[i]?=some T->uU T l W (P i)/\∀x,P i x->QN (ar.getD l.pred 0) x)(C:∀l∈r.qp,∀x,zyl ar R l.pred x=D l.pred x)(b:Nat)(o:lr W r<=b):
  ∃m ok,vC mr r.head.pred b R (xr r h (qV wd R r))=some (m,ok)/\By ar W k D c0 r.head.pred mr (fun x=>∃y,((∀(i:Nat) (l:zu),r.qc[i]?=some l->P i (zF l y))/\∀l∈r.qp,D l.pred (zF l y)=none)/\x=zF r.head y) R m ok:=by
 have A:dO r h W:=⟨c,fun i l T e n=>by obtain⟨v,_⟩:=w i l T e n;exact⟨v.ok,v.ql,by rw[v.qf];exact zg _⟩⟩;have B:vF W r.vars 0 [] 0+(W*(r.qc.length+1)+r.qc.length)+3<=b:=o;obtain⟨m,ok,F,f⟩:=Kf (Ns:=qV wd R r) (D0:=D) (c0:=c0) (k:=k) g.fine A J G g.hpred g.head _ (zg _) p b R _ _ s E (Ik g.fine A _) (by omega);have d:∀x,(∃y,js r h (qV wd R r) y/\x=zF r.head y)↔∃y,((∀(i:Nat) (l:zu),r.qc[i]?=some l->P i (zF l y))/\∀l∈r.qp,D l.pred (zF l y)=none)/\x=zF r.head y:=by
  intro x;constructor
  ·rintro⟨y,j,u⟩;obtain⟨H,I⟩:=(E9 g s.inv c w y).1 j;exact⟨y,⟨H,fun l e=>by rw[←C l e];exact I l e⟩,u⟩
  ·rintro⟨y,j,u⟩;exact⟨y,(E9 g s.inv c w y).2 ⟨j.1,fun l e=>by rw[C l e];exact j.2 l e⟩,u⟩
 exact⟨m,ok,F,f.mid,f.mono,fun q x t=>(f.sound q x t).imp id fun z=>⟨z.1,(d x).1 z.2⟩,fun q=>⟨(f.yes q).1,fun x t=>(f.yes q).2 x ((d x).2 t)⟩,f.no⟩
structure sI (ar:List Nat) (W k:Nat) (D:DB) (c0:List Nat) (mr:Nat) (want:Nat->zm->Prop) (R R':z7) (ok:Bool):Prop where
 mid:Ry ar W k D c0 R'
 mono:∀q x,x∈R.qo.getD q []->x∈R'.qo.getD q []
 sound:∀q x,x∈R'.qo.getD q []->x∈R.qo.getD q []∨want q x
 yes:ok=true->R'.count<=mr
 no:ok=false->R'.count>mr
theorem KX{k:Nat}{D0 D:DB}{w:zX}(u:wT ar W w r D0 D c0)(I:rq ar D)(E:nP r ar W)(K:∀a∈ar,a<=3)(C:0<W)(s:mr<=1048576){R:z7}(G:Ry ar W k D c0 R)(A:R.count<=mr)(H:∀l∈r.qp,∀x,zyl ar R l.pred x=D l.pred x)(b:Nat)(n:lr W r<=b):
  ∃j ok,kJ b wd mr true R w=some (j,ok)/\sI ar W k D c0 mr (fun q x=>q=r.head.pred/\Sr r D x) R j ok/\(ok=true->∀x,Sr r D x->QF (zyl ar j) r.head.pred x):=by
 have L:∀(i:Nat) (l:zu) (T:zi),r.qc[i]?=some l->(w.qm.map (·.all))[i]?=some T->uU T l W ((fun i x=>∃l,r.qc[i]?=some l/\QF D l.pred x) i)/\∀x,(fun i x=>∃l,r.qc[i]?=some l/\QF D l.pred x) i x->QN (ar.getD l.pred 0) x:=by
  intro i l T d h;simp only[lH,vN] at h;obtain⟨V,F,rfl⟩:=h;refine⟨(u.qm i l V d F).all.congr fun x=>⟨fun q=>⟨l,d,q⟩,fun⟨m,c,f⟩=>?_⟩,fun x ⟨m,c,f⟩=>?_⟩
  ·rw[d] at c;simp only[zt] at c;subst c;exact f
  ·rw[d] at c;simp only[zt] at c;subst c;exact(I _ x f).2
 obtain⟨j,ok,B,g⟩:=B0 (wd:=wd) E K C s G A (by simp[u.len]) L H b n;have e:∀x,(∃y,((∀(i:Nat) (l:zu),r.qc[i]?=some l->(∃m,r.qc[i]?=some m/\QF D m.pred (zF l y)))/\∀l∈r.qp,D l.pred (zF l y)=none)/\x=zF r.head y)↔Sr r D x:=by
  intro x;constructor
  ·rintro⟨y,⟨c,f⟩,o⟩;refine⟨y,fun l d=>?_,f,o⟩;obtain⟨i,v,rfl⟩:=qa d;obtain⟨m,p,J⟩:=c i _ (yq v);rw[yq v] at p;simp only[zt] at p;subst p;exact J
  ·rintro⟨y,c,f,o⟩;exact⟨y,⟨fun i l d=>⟨l,d,c l (fm d)⟩,f⟩,o⟩
 unfold kJ;rw[zc rfl,u.rule];exact⟨j,ok,B,⟨g.mid,g.mono,fun q x t=>(g.sound q x t).imp id fun z=>⟨z.1,(e x).1 z.2⟩,fun q=>(g.yes q).1,g.no⟩,fun q x t=>(g.yes q).2 x ((e x).2 t)⟩
def Sw(r:zr)(D0 D:DB)(i:Nat)(y:List Nat):Prop:=∃(j:Nat) (l:zu),i<=j/\r.qc[j]?=some l/\QF D l.pred (zF l y)/\¬QF D0 l.pred (zF l y)/\(∀(t:Nat) (a:zu),r.qc[t]?=some a->(t<j->QF D0 a.pred (zF a y))/\(j<t->QF D a.pred (zF a y)))/\∀l∈r.qp,D l.pred (zF l y)=none
theorem Pc{k:Nat}{D0 D:DB}{w:zX}(K:wT ar W w r D0 D c0)(X:rq ar D)(L:∀p x,QF D0 p x->QF D p x)(hr:nP r ar W)(h3:∀a∈ar,a<=3)(hW:0<W)(ae:mr<=1048576)(u:Nat)(aa:lr W r<=u)(ac:∀l∈r.qp,l.pred≠r.head.pred):
  ∀(n i:Nat) (R:z7),i+n=w.qm.length->Ry ar W k D c0 R->R.count<=mr->(∀l∈r.qp,∀x,zyl ar R l.pred x=D l.pred x)->∃R' ok,jA u wd mr w n i R=some (R',ok)/\sI ar W k D c0 mr (fun q x=>q=r.head.pred/\Sr r D x) R R' ok/\(ok=true->∀y,Sw r D0 D i y->QF (zyl ar R') r.head.pred (zF r.head y)):=by
 intro n;induction n with
 |zero=>
  intro i R hi O S _;refine⟨R,true,rfl,⟨O,fun q x c=>c,fun q x c=>zf c,fun _=>S,fun q=>by cases q⟩,fun _ y M=>?_⟩;obtain⟨j,l,b,d,_⟩:=M;have:=(jM.1 d).1;have:=K.len;omega
 |succ n ih=>
  intro i R hi O S hn;have G:i<w.qm.length:=by omega
  have A:i<r.qc.length:=by rw[←K.len];exact G
  have hV:=K.qm i _ _ (yq A) (yq G);have ag:=(hr.qc _ (zs A)).2;have hg:w.qm.getD i ⟨⟨0,[]⟩,zi.zero,zi.zero,zi.zero⟩=w.qm[i]:=QB _ G;unfold jA;rw[hg];by_cases s:w.qm[i].qo.count>0
  ·rw[zc s];have hT:∀(t:Nat) (l:zu) (T:zi),r.qc[t]?=some l->(QP w.qm i)[t]?=some T->uU T l W ((fun t x=>∃l,r.qc[t]?=some l/\(t<i->QF D0 l.pred x)/\(t=i->QF D l.pred x/\¬QF D0 l.pred x)/\(i<t->QF D l.pred x)) t)/\∀x,(fun t x=>∃l,r.qc[t]?=some l/\(t<i->QF D0 l.pred x)/\(t=i->QF D l.pred x/\¬QF D0 l.pred x)/\(i<t->QF D l.pred x)) t x->QN (ar.getD l.pred 0) x:=by
    intro t l T g F;unfold QP at F;simp only[lH,vN,List.getElem?_zipIdx] at F;obtain⟨⟨V,j⟩,⟨V',af,Q⟩,rfl⟩:=F;simp only[vz,ya] at Q;obtain⟨rfl,rfl⟩:=Q;have E:=K.qm t l V' g af;have N:∀x,(∃l,r.qc[t]?=some l/\(t<i->QF D0 l.pred x)/\(t=i->QF D l.pred x/\¬QF D0 l.pred x)/\(i<t->QF D l.pred x))->QN (ar.getD l.pred 0) x:=by
     rintro x ⟨f,b,d,v,C⟩;rw[g] at b;simp only[zt] at b;subst b;rcases p5 t i with z|z|z
     ·exact(X _ x (L _ x (d z))).2
     ·exact(X _ x (v z).1).2
     ·exact(X _ x (C z)).2
    refine⟨?_,N⟩;simp only;by_cases h1:t<i
    ·rw[zc h1];refine E.before.congr fun x=>⟨fun q=>⟨l,g,fun _=>q,fun z=>by omega,fun z=>by omega⟩,fun⟨f,b,d,_,_⟩=>?_⟩;rw[g] at b;simp only[zt] at b;subst b;exact d h1
    ·rw[za h1];by_cases h2:t=i
     ·rw[zc h2];refine E.qo.congr fun x=>⟨fun q=>⟨l,g,fun z=>by omega,fun _=>q,fun z=>by omega⟩,fun⟨f,b,_,v,_⟩=>?_⟩;rw[g] at b;simp only[zt] at b;subst b;exact v h2
     ·rw[za h2];refine E.all.congr fun x=>⟨fun q=>⟨l,g,fun z=>by omega,fun z=>by omega,fun _=>q⟩,fun⟨f,b,_,_,C⟩=>?_⟩;rw[g] at b;simp only[zt] at b;subst b;exact C (by omega)
   obtain⟨R1,ok,a1,o⟩:=B0 (wd:=wd) hr h3 hW ae O S (by simp[QP,K.len]) hT hn u aa;rw[K.rule,a1];have e:∀x,(∃y,((∀(t:Nat) (l:zu),r.qc[t]?=some l->(∃f,r.qc[t]?=some f/\(t<i->QF D0 f.pred (zF l y))/\(t=i->QF D f.pred (zF l y)/\¬QF D0 f.pred (zF l y))/\(i<t->QF D f.pred (zF l y))))/\∀l∈r.qp,D l.pred (zF l y)=none)/\x=zF r.head y)->Sr r D x:=by
    rintro x ⟨y,⟨b,d⟩,v⟩;refine⟨y,fun l g=>?_,d,v⟩;obtain⟨t,ht,rfl⟩:=qa g;obtain⟨f,s1,s2,s3,s4⟩:=b t _ (yq ht);rw[yq ht] at s1;simp only[zt] at s1;subst s1;rcases p5 t i with z|z|z
    ·exact L _ _ (s2 z)
    ·exact(s3 z).1
    ·exact s4 z
   cases ok with
   |false=>
    exact⟨R1,false,rfl,⟨o.mid,o.mono,fun q x c=>(o.sound q x c).imp id fun z=>⟨z.1,e x z.2⟩,(fun q=>by cases q),o.no⟩,fun q=>by cases q⟩
   |true=>
    simp only;obtain⟨b1,b2⟩:=o.yes rfl;have ab:∀l∈r.qp,∀x,zyl ar R1 l.pred x=D l.pred x:=by
     intro l g x;have ad:=ac l g;rw[o.mid.abs,←hn l g x,O.abs];cases hq:D l.pred x with
     |some m=>rfl
     |none=>
      simp only;by_cases c:x∈R.qo.getD l.pred []
      ·rw[zc c,zc (o.mono _ x c)]
      ·rw[za c,za];intro Z;rcases o.sound _ x Z with z|z
       ·exact c z
       ·exact ad z.1
    obtain⟨R2,H,c1,B,Y⟩:=ih (i+1) R1 (by omega) o.mid b1 ab;refine⟨R2,H,c1,⟨B.mid,fun q x c=>B.mono q x (o.mono q x c),fun q x c=>?_,B.yes,B.no⟩,fun I y M=>?_⟩
    ·rcases B.sound q x c with z|z
     ·exact(o.sound q x z).imp id fun z=>⟨z.1,e x z.2⟩
     ·exact zb z
    ·obtain⟨j,l,b,d,v,C,P,U⟩:=M;by_cases J:j=i
     ·subst J;refine o.mid.grow B.mid B.mono (b2 _ ⟨y,⟨fun t f h=>⟨f,h,fun z=>(P t f h).1 z,fun z=>?_,fun z=>(P t f h).2 z⟩,U⟩,rfl⟩);subst z;rw[d] at h;simp only[zt] at h;subst h;exact⟨v,C⟩
     ·exact Y I y ⟨j,l,by omega,d,v,C,P,U⟩
  ·rw[za s];obtain⟨R2,H,c1,B,Y⟩:=ih (i+1) R (by omega) O S hn;refine⟨R2,H,c1,B,fun I y M=>?_⟩;obtain⟨j,l,b,d,v,C,P,U⟩:=M;by_cases J:j=i
   ·subst J;rw[yq A] at d;simp only[zt] at d;subst d;have hs:=(hV.qo.sat ag (fun x c=>(X _ x c.1).2) y).2 ⟨v,C⟩;exact zC (Nat.pos_of_ne_zero (hs.count hV.qo.ok hV.qo.ql (hr.fine.qg _ (zs A)))) s
   ·exact Y I y ⟨j,l,by omega,d,v,C,P,U⟩
end
section
open Classical
variable {ar:List Nat}{W wd:Nat}{D0:DB}{ws:List zX}{rs:List zr}
structure sj (rs:List zr) (ar:List Nat) (W:Nat):Prop where
 rules:∀r∈rs,nP r ar W
 apart:∀r∈rs,∀r'∈rs,∀l∈r.qp,l.pred≠r'.head.pred
def sD(rs:List zr)(R:z7):Prop:=∀q x,x∈R.qo.getD q []->∃r∈rs,q=r.head.pred
theorem Ry.qp{ar:List Nat}{W k:Nat}{D:DB}{c0:List Nat}{R:z7}{rs:List zr}(h:Ry ar W k D c0 R)(hs:sj rs ar W)(a:sD rs R){r:zr}(g:r∈rs):∀l∈r.qp,∀x,zyl ar R l.pred x=D l.pred x:=by
 intro l b x;rw[h.abs];cases i:D l.pred x with
 |some m=>rfl
 |none=>
  simp only;rw[za];intro f;obtain⟨c,d,e⟩:=a _ x f;exact hs.apart r g c d l b e
inductive jQ (ar:List Nat) (W:Nat) (D0 D:DB) (c:List Nat):List zX->List zr->Prop
 |nil:jQ ar W D0 D c [] []
 |cons {w:zX} {r:zr} {ws:List zX} {rs:List zr}:wT ar W w r D0 D c->jQ ar W D0 D c ws rs->jQ ar W D0 D c (w::ws) (r::rs)
def pq(first:Bool)(r:zr)(D0 D:DB)(x:zm):Prop:=if first then Sr r D x else ∃y,Sw r D0 D 0 y/\x=zF r.head y
theorem Ok{k:Nat}{D:DB}{c0:List Nat}(L:rq ar D)(E:∀p x,QF D0 p x->QF D p x)(M:∀a∈ar,a<=3)(J:0<W){mr:Nat}(s:mr<=1048576)(d:Nat){f:List zr}(hs:sj f ar W)(m:∀r∈f,lr W r<=d)(first:Bool)(Y:jQ ar W D0 D c0 ws rs)(h:∀r∈rs,r∈f):
  ∀(R:z7),Ry ar W k D c0 R->R.count<=mr->sD f R->∃C ok,ky d wd mr first ws R=some (C,ok)/\sI ar W k D c0 mr (fun q x=>∃r∈rs,q=r.head.pred/\Sr r D x) R C ok/\sD f C/\(ok=true->∀r∈rs,∀x,pq first r D0 D x->QF (zyl ar C) r.head.pred x):=by
 induction Y with
 |nil=>
  intro R u A B;exact⟨R,true,rfl,⟨u,fun q x b=>b,fun q x b=>zf b,fun _=>A,fun q=>by cases q⟩,B,fun _ r Q=>by cases Q⟩
 |@cons w r ws rs t X P=>
  intro R u A B;have c:=h r (by simp);have K:=u.qp hs B c;have v:∃g ok,kJ d wd mr first R w=some (g,ok)/\sI ar W k D c0 mr (fun q x=>q=r.head.pred/\Sr r D x) R g ok/\(ok=true->∀x,pq first r D0 D x->QF (zyl ar g) r.head.pred x):=by
   cases first with
   |true=>
    obtain⟨g,ok,l,e,n⟩:=KX (wd:=wd) t L (hs.rules r c) M J s u A K d (m r c);exact⟨g,ok,l,e,fun q x b=>n q x (by simpa [pq] using b)⟩
   |false=>
    obtain⟨g,ok,l,e,n⟩:=Pc (wd:=wd) t L E (hs.rules r c) M J s d (m r c) (hs.apart r c r c) w.qm.length 0 R (by omega) u A K;refine⟨g,ok,?_,e,fun q x b=>?_⟩
    ·unfold kJ;exact l
    ·have G:∃y,Sw r D0 D 0 y/\x=zF r.head y:=by simpa [pq] using b
     obtain⟨y,N,rfl⟩:=G;exact n q y N
  obtain⟨g,ok,l,e,n⟩:=v;have o:sD f g:=by
   intro q x b;rcases e.sound q x b with z|z
   ·exact B q x z
   ·exact⟨r,c,z.1⟩
  unfold ky;rw[l];cases ok with
  |false=>
   exact⟨g,false,rfl,⟨e.mid,e.mono,fun q x b=>(e.sound q x b).imp id fun z=>⟨r,by simp,z⟩,e.yes,e.no⟩,o,fun q=>by cases q⟩
  |true=>
   simp only;obtain⟨T,F,V,i,Z,U⟩:=P (fun x b=>h x (by simp[b])) g e.mid (e.yes rfl) o;refine⟨T,F,V,⟨i.mid,fun q x b=>i.mono q x (e.mono q x b),fun q x b=>?_,i.yes,i.no⟩,Z,fun H I j x b=>?_⟩
   ·rcases i.sound q x b with z|⟨I,O,S⟩
    ·exact(e.sound q x z).imp id fun z=>⟨r,by simp,z⟩
    ·exact zb ⟨I,by simp[O],S⟩
   ·rcases zx.1 j with rfl|j
    ·exact e.mid.grow i.mid i.mono (n rfl x b)
    ·exact U H I j x b
theorem Jv{r:zr}{D:DB}(h:∀p x,QF D0 p x->QF D p x){y:List Nat}(A:∀l∈r.qc,QF D l.pred (zF l y))(v:∀l∈r.qp,D l.pred (zF l y)=none):Sw r D0 D 0 y∨Sr r D0 (zF r.head y):=by
 by_cases c:∀l∈r.qc,QF D0 l.pred (zF l y)
 ·refine zb ⟨y,c,fun l e=>?_,rfl⟩;cases d:D0 l.pred (zF l y) with
  |none=>rfl
  |some m=>
   have:=h l.pred (zF l y) (by unfold QF;rw[d];rfl);unfold QF at this;rw[v l e] at this;cases this
 ·refine zf ?_;have s:∃(j:Nat) (l:zu),r.qc[j]?=some l/\¬QF D0 l.pred (zF l y):=by
   false_or_by_contra
   rename_i q;apply c;intro l e;obtain⟨i,E,rfl⟩:=qa e;false_or_by_contra
   rename_i d;exact q ⟨i,_,yq E,d⟩
  have f:∀n j:Nat,j=n->(∃l,r.qc[j]?=some l/\¬QF D0 l.pred (zF l y))->∃(j:Nat) (l:zu),r.qc[j]?=some l/\¬QF D0 l.pred (zF l y)/\∀(t:Nat) (a:zu),t<j->r.qc[t]?=some a->QF D0 a.pred (zF a y):=by
   intro n;induction n using Nat.strongRecOn with
   |_ n C=>
    rintro j rfl ⟨l,e,d⟩;by_cases b:∃(t:Nat) (a:zu),t<j/\r.qc[t]?=some a/\¬QF D0 a.pred (zF a y)
    ·obtain⟨t,a,k,o,g⟩:=b;exact C t k t rfl ⟨a,o,g⟩
    ·refine⟨j,l,e,d,fun t a k o=>?_⟩;false_or_by_contra
     rename_i g;exact b ⟨t,a,k,o,g⟩
  obtain⟨u,G,J,H⟩:=s;obtain⟨j,l,w,I,F⟩:=f u u rfl ⟨G,J,H⟩;exact⟨j,l,zv _,w,A l (fm w),I,fun t a B=>⟨fun z=>F t a z B,fun _=>A a (fm B)⟩,v⟩
theorem Ar{ar:List Nat}{W wd k:Nat}(H:W=zM wd){D0 D:DB}{c0:List Nat}{R':z7}(o:∀p x,QF D0 p x->QF D p x)(f:Ry ar W k D c0 R')(L:R'.count<=1048576)(a:Nat)(s:3*(W+1)<=a):
  ∀(d:List zu) (vs:List yA),vs.length=d.length->(∀l∈d,l.pred<ar.length)->(∀(i:Nat) (l:zu) (V:yA),d[i]?=some l->vs[i]?=some V->n5 V l W (QF D0 l.pred) (QF D l.pred) (fun x=>QF D l.pred x/\¬QF D0 l.pred x) (c0.getD l.pred 0)) →
   ∃b,dJ a wd R'.qo vs=some b/\b.length=d.length/\∀(i:Nat) (l:zu) (V:yA),d[i]?=some l->b[i]?=some V->n5 V l W (QF D l.pred) (QF (zyl ar R') l.pred) (fun x=>QF (zyl ar R') l.pred x/\¬QF D l.pred x) ((R'.rows.map (·.count)).getD l.pred 0)
 |[],[],_,_,_=>⟨[],rfl,rfl,fun i l V h=>by simp at h⟩
 |[],V::vs,r,_,_=>by simp at r
 |l::d,[],r,_,_=>by simp at r
 |l::d,V::vs,r,G,J=>by
  have I:=J 0 l V rfl rfl;have z:=G l (by simp);have j:l.pred<R'.qo.length:=by rw[f.flen];exact z
  have g:l.pred<R'.rows.length:=by rw[f.inv.len];exact z
  have A:=f.qo l.pred j;have w:=f.cnts l.pred g;have C:=oF R'.rows l.pred g;rw[←f.inv.cnt] at C;have B:R'.qo.getD l.pred []=R'.qo[l.pred]:=QB _ j;rw[B] at w;obtain⟨F,P,u⟩:=EQ I H R'.qo[l.pred] (fun x n=>(A.2 x n).2.1) (by omega) a s;obtain⟨b,O,N,Q⟩:=Ar H o f L a s d vs (by simpa using r) (fun x n=>G x (by simp[n])) (fun i E F v t=>J (i+1) E F (by simpa using v) (by simpa using t));have c:∀x,QF (zyl ar R') l.pred x↔QF D l.pred x∨x∈R'.qo[l.pred]:=by
   intro x;unfold QF;rw[f.abs,B];cases R:D l.pred x with
   |some m=>simp
   |none=>
    simp only;by_cases n:x∈R'.qo[l.pred]
    ·simp[n]
    ·simp[n]
  refine⟨F::b,?_,by simp[N],fun i E U v t=>?_⟩
  ·unfold dJ;rw[I.lit,zc j,B,P,O]
  ·cases i with
   |zero=>
    simp only[dS,zt] at v t;subst v;subst t;refine⟨u.lit,u.before.congr fun x=>?_,u.qo.congr fun x=>?_,u.all.congr fun x=>(c x).symm,?_⟩
    ·constructor
     ·rintro(q|q)
      ·exact o _ x q
      ·exact q.1
     ·intro q;by_cases K:QF D0 l.pred x
      ·exact zf K
      ·exact zb ⟨q,K⟩
    ·constructor
     ·intro q;refine⟨(c x).2 (zb q),fun y=>?_⟩;unfold QF at y;rw[(A.2 x q).2.2] at y;cases y
     ·rintro⟨M,y⟩;exact((c x).1 M).resolve_left y
    ·have e:(R'.rows.map (·.count)).getD l.pred 0=R'.rows[l.pred].count:=by simp[List.getD,g]
     rw[e,w];exact u.few
   |succ i=>exact Q i E U (by simpa using v) (by simpa using t)
theorem GK{k:Nat}(i:W=zM wd){D:DB}{c0:List Nat}{R':z7}(d:∀p x,QF D0 p x->QF D p x)(q:Ry ar W k D c0 R')(h:R'.count<=1048576)(a:Nat)(f:3*(W+1)<=a)(v:jQ ar W D0 D c0 ws rs)(g:∀r∈rs,∀l∈r.qc,l.pred<ar.length):
  ∃b,g7 a wd R'.qo ws=some b/\jQ ar W D (zyl ar R') (R'.rows.map (·.count)) b rs:=by
 induction v with
 |nil=>exact⟨[],rfl,jQ.nil⟩
 |@cons w r ws rs c s m=>
  obtain⟨b,t,o⟩:=m (fun x u=>g x (by simp[u]));obtain⟨e,y,n,j⟩:=Ar i d q h a f r.qc w.qm c.len (g r (by simp)) c.qm;refine⟨{w with qm:=e}::b,?_,jQ.cons ⟨c.rule,n,j⟩ o⟩;unfold g7;rw[y,t]
def jp(rs:List zr)(D:DB)(p:Nat)(x:zm):Prop:=∃r∈rs,p=r.head.pred/\Sr r D x
noncomputable def zyr(rs:List zr)(k:Nat)(D:DB):DB:=fun p x=>match D p x with
 |some m=>some m
 |none=>if jp rs D p x then some k else none
theorem Ry.clear{R:z7}(h:jr ar W R):Ry ar W R.qw (zyl ar R) (R.rows.map (·.count)) (qs R):=by
 have c:∀p,(List.replicate R.rows.length ([]:List zm)).getD p []=[]:=fun p=>by
  by_cases a:p<R.rows.length<;>simp[List.getD,a]
 refine⟨⟨h.len,h.tries,h.cnt⟩,rfl,by simp[qs,h.len],fun p a=>?_,fun p x=>?_,fun p a=>?_⟩
 ·simp only[qs,tU];exact⟨List.nodup_nil,fun x d=>by cases d⟩
 ·show zyl ar R p x=match zyl ar R p x with|some m=>some m|none=>if x∈(List.replicate R.rows.length ([]:List zm)).getD p [] then some R.qw else none
  rw[c];cases zyl ar R p x<;>simp
 ·show R.rows[p].count=(R.rows.map (·.count)).getD p 0+((List.replicate R.rows.length ([]:List zm)).getD p []).length;have b:p<R.rows.length:=a;rw[c,show(R.rows.map (·.count)).getD p 0=R.rows[p].count by simp[List.getD,b]];rfl
theorem Ry.start{R:z7}(h:jr ar W R):Ry ar W (R.qw+1) (zyl ar R) (R.rows.map (·.count)) (qs {R with qw:=R.qw+1}):=
 Ry.clear (R:={R with qw:=R.qw+1}) ⟨h.len,h.tries,h.cnt⟩
theorem Jj(z:W=zM wd)(S:∀a∈ar,a<=3){mr:Nat}(B:mr<=1048576)(b:Nat)(hs:sj rs ar W)(u:(∀r∈rs,lr W r<=b)/\3*(W+1)<=b)(first:Bool){R:z7}(O:jr ar W R)(J:R.count<=mr)(k:∀p x,QF D0 p x->QF (zyl ar R) p x)(H:jQ ar W D0 (zyl ar R) (R.rows.map (·.count)) ws rs)(E:first=false->∀p x,jp rs D0 p x->QF (zyl ar R) p x):
  ∃c h ok,nE b wd mr first ws R=some (c,h,ok)/\jr ar W c/\c.qw=R.qw+1/\(∀p x,QF (zyl ar c) p x->QF (zyr rs (R.qw+1) (zyl ar R)) p x)/\(ok=false->c.count>mr)/\(ok=true->c.count<=mr/\zyl ar c=zyr rs (R.qw+1) (zyl ar R)/\jQ ar W (zyl ar R) (zyl ar c) (c.rows.map (·.count)) h rs):=by
 have N:0<W:=by rw[z];unfold zM;split<;>omega
 have C:=Ry.start O;have w:∀q x,x∉(qs {R with qw:=R.qw+1}).qo.getD q []:=fun q x g=>by
  have:(List.replicate R.rows.length ([]:List zm)).getD q []=[]:=by by_cases K:q<R.rows.length<;>simp[List.getD,K]
  have v:x∈(List.replicate R.rows.length ([]:List zm)).getD q []:=g;rw[this] at v;cases v
 obtain⟨c,ok,M,f,T,G⟩:=Ok (wd:=wd) (DA ar R) k S N B b hs u.1 first H (fun r n=>n) (qs {R with qw:=R.qw+1}) C J (fun q x g=>zC g (w q x))
 have e:∀p x,x∈c.qo.getD p []->jp rs (zyl ar R) p x:=fun p x g=>(f.sound p x g).resolve_left (w p x);have j:∀p x,QF (zyl ar c) p x->QF (zyr rs (R.qw+1) (zyl ar R)) p x:=by
  intro p x g;unfold QF at g ⊢;rw[f.mid.abs] at g;unfold zyr;cases t:zyl ar R p x with
  |some m=>rfl
  |none=>
   rw[t] at g;by_cases s:x∈c.qo.getD p []
   ·rw[zc (e p x s)];rfl
   ·rw[za s] at g;cases g
 unfold nE;rw[M];cases ok with
 |false=>exact⟨c,ws,false,rfl,f.mid.inv,f.mid.qw,j,fun _=>f.no rfl,fun q=>by cases q⟩
 |true=>
  have i:=f.yes rfl;obtain⟨h,Q,P⟩:=GK z k f.mid (by omega) b u.2 H (fun r n l L=>((hs.rules r n).qc l L).1);simp only[Q,jy];refine⟨c,h,true,rfl,f.mid.inv,f.mid.qw,j,fun q=>(by cases q),fun _=>⟨i,?_,P⟩⟩;have o:∀p x,jp rs (zyl ar R) p x->QF (zyl ar c) p x:=by
   rintro p x ⟨r,n,rfl,y,F,I,rfl⟩;cases first with
   |true=>exact G rfl r n _ (by simp only[pq,if_true];exact⟨y,F,I,rfl⟩)
   |false=>
    rcases Jv k F I with q|q
    ·exact G rfl r n _ (by simp only[pq];exact⟨y,q,rfl⟩)
    ·have A:=E rfl r.head.pred _ ⟨r,n,rfl,q⟩;unfold QF at A ⊢;rw[f.mid.abs];cases t:zyl ar R r.head.pred (zF r.head y) with
     |some m=>rfl
     |none=>rw[t] at A;cases A
  funext p x;have D:=f.mid.abs p x;unfold zyr;rw[D];cases t:zyl ar R p x with
  |some m=>rfl
  |none=>
   rw[t] at D;by_cases d:jp rs (zyl ar R) p x
   ·have:=o p x d;unfold QF at this;rw[D] at this;by_cases s:x∈c.qo.getD p []
    ·rw[zc s,zc d]
    ·rw[za s] at this;cases this
   ·rw[za d,za (fun s=>d (e p x s))]
end
end Go.Proofs.YteampbddflhngaaGreat
