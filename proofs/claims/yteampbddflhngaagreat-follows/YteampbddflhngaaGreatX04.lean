import Derived.Test.YteampbddflhngaaGreatX01
namespace Go.Proofs.YteampbddflhngaaGreat
set_option linter.all false
section
variable {r:zq}{Ts Ns:List zi}{J:zy}
structure Q6 (r:zq) (Ts Ns:List zi) (W:Nat) (J:zy) (d:Nat):Prop where
 stat:qX r Ts Ns J
 qi:NY r J d
 nob:JW r Ns J.ja d
 «from» : ∀i,i<d->J.from.getD i 0=J.ja.getD i 0+1
 small:∀i,i<d->J.ja.getD i 0<W
theorem qX.same{a:zy}(h:qX r Ts Ns J)(s:qz J a):qX r Ts Ns a:=by
 rw[s];exact⟨h.head,h.vars,h.je,h.jg,h.last,h.bars,h.qy,h.vlen,h.flen⟩
theorem Q6.same{r:zq}{Ts Ns:List zi}{W:Nat}{J a:zy}{d:Nat}(h:Q6 r Ts Ns W J d)(s:qz J a):Q6 r Ts Ns W a d:=by
 refine⟨h.stat.same s,?_,?_,?_,?_⟩
 ·rw[s];exact h.qi
 ·rw[s];exact h.nob
 ·rw[s];exact h.from
 ·rw[s];exact h.small
theorem Q6.back{W d b:Nat}(h:Q6 r Ts Ns W J d)(c:b<=d):Q6 r Ts Ns W J b:=by
 refine⟨h.stat,fun i l s t u=>?_,fun x g f=>h.nob x g (by omega),fun i o=>h.from i (by omega),fun i o=>h.small i (by omega)⟩;obtain⟨p,n,a⟩:=h.qi i l s t u;have m:=(ea l c).length_le;refine⟨p,fun k f q=>?_,?_⟩
 ·rw[ed l J.ja c,List.take_take,dH f];exact n k (by omega) q
 ·rw[ed l J.ja c];have e:yo l J.ja d=(yo l J.ja d).take (y7 l b).length++(yo l J.ja d).drop (y7 l b).length:=(qU _ _).symm;rw[e,mC] at a;cases j:Qc s.rows 0 ((yo l J.ja d).take (y7 l b).length) with
  |none=>rw[j] at a;cases a
  |some x=>rfl
theorem qX.side(h:qX r Ts Ns J){i:Nat}{s:yJ}(hs:J.qy[i]?=some s):Ts[i]?=some s.rows:=by
 rw[←h.qy];simp[hs]
theorem qX.some{r:zq}{Ts Ns:List zi}{W:Nat}{J:zy}(h:qX r Ts Ns J)(a:gQ r Ts W){i:Nat}{l:zt}(b:r.qc[i]?=some l):∃s,J.qy[i]?=some s:=by
 have c:J.qy.length=r.qc.length:=by rw[←a.len,←h.qy];simp
 have d:=(jA.1 b).1;exact⟨_,yr (by omega)⟩
theorem qX.holdsAt(h:qX r Ts Ns J){d:Nat}(a:d<5):J.je.getD d []=yW r d:=by
 rw[h.je];simp[List.getD,a]
theorem Q6.hold{W d:Nat}(h:Q6 r Ts Ns W J d)(o:gK r)(k:gQ r Ts W){x:Nat×Nat}(m:x∈yW r d):
  ∃l s,r.qc[x.1]?=some l/\J.qy[x.1]?=some s/\zH l d=true/\x.2=(y7 l d).length/\x.2<3/\vi J x=true/\vo s.rows/\s.rows.qf<=W/\∀v,Qc s.rows 0 (yo l J.ja d++[v])=j4 J x v:=by
 obtain⟨i,f⟩:=x;obtain⟨l,b,j,c⟩:=D7 m;obtain⟨s,a⟩:=h.stat.some k b;have q:(y7 l (d+1)).length=f+1:=by rw[lz,zb j,c];simp
 have e:f<3:=by
  have:=iC l (d+1);have:=o.qg l (fe b);omega
 have g:=(jA.1 a).1;obtain⟨t,u,n⟩:=k.ok i l s.rows b (h.stat.side a);refine⟨l,s,b,a,j,c,e,by simp[vi,g,e],t,n,fun v=>?_⟩;obtain⟨w,p,y⟩:=h.qi i l s b a;have:=p f (by omega) e;rw[c,show(yo l J.ja d).take (y7 l d).length=yo l J.ja d by rw[←mL l J.ja d];exact vf] at this;rw[mC,this];unfold j4;simp only[List.getD,a,ux,Option.bind_some,Qc,c];cases zG s.rows _ v<;>rfl
theorem ta(h:qX r Ts Ns J)(k:Nat):uy J k=true↔∃x∈r.qp.zip Ns,uC x.1=k/\(uk x.2 (zF x.1 J.ja)).isSome=true:=by
 unfold uy;rw[h.bars,List.any_map,kT];simp
theorem Q6.take{r:zq}{Ts Ns:List zi}{W:Nat}{J:zy}{d v:Nat}(h:Q6 r Ts Ns W J d)(S:gK r)(hf:gQ r Ts W)(hd:d<r.vars)(hv:∀x∈yW r d,(j4 J x v).isSome=true)(hW:v<W):
  (ue J d v).ja=J.ja.set d v/\(∀i,i<d->(ue J d v).from.getD i 0=J.from.getD i 0)/\(ue J d v).from.getD d 0=v+1/\(d+1<5->(ue J d v).from.getD (d+1) 0=0)/\Q6 r Ts Ns W (ue J d v) d/\(uy (ue J d v) (d+1)=false->Q6 r Ts Ns W (ue J d v) (d+1)):=by
 have ad:=S.vars;have aa:d<5:=by omega
 have ac:=h.stat.vlen;have V:=h.stat.flen;unfold ue;rw[za (by omega),h.stat.holdsAt aa];obtain⟨R,e1,e2,X⟩:=oF v (yW r d) {J with ja:=J.ja.set d v,«from»:=(if d+1<5 then(J.from.set d (v+1)).set (d+1) 0 else J.from.set d (v+1))} (DD r d) (fun x t=>by
  obtain⟨_,_,_,_,_,_,_,q,_⟩:=h.hold S hf t;unfold vi at q ⊢;exact q)
 rw[e1];simp only at e2 X ⊢;have G:∀i,i<d->(if d+1<5 then(J.from.set d (v+1)).set (d+1) 0 else J.from.set d (v+1)).getD i 0=J.from.getD i 0:=by
  intro i E;split
  ·rw[uq,za (by omega),uq,za (by omega)]
  ·rw[uq,za (by omega)]
 have M:(if d+1<5 then(J.from.set d (v+1)).set (d+1) 0 else J.from.set d (v+1)).getD d 0=v+1:=by
  split
  ·rw[uq,za (by omega),uq,zb ⟨rfl,by omega⟩]
  ·rw[uq,zb ⟨rfl,by omega⟩]
 have F:R.map (·.rows)=Ts:=by
  rw[←h.stat.qy];refine mp fun i=>?_;simp only[li];cases n:J.qy[i]? with
  |none=>
   have:J.qy.length<=i:=List.getElem?_eq_none_iff.1 n;rw[kp (by omega)]
  |some s=>
   rw[X i s n];simp only[jj,zr];cases (yW r d).lookup i with
   |none=>rfl
   |some Z=>simp only[setDown];split<;>rfl
 have e:qX r Ts Ns {J with qy:=R,ja:=J.ja.set d v,«from»:=(if d+1<5 then(J.from.set d (v+1)).set (d+1) 0 else J.from.set d (v+1))}:=⟨h.stat.head,h.stat.vars,h.stat.je,h.stat.jg,h.stat.last,h.stat.bars,F,by simpa using ac,by show(if d+1<5 then(J.from.set d (v+1)).set (d+1) 0 else J.from.set d (v+1)).length=5;split<;>simpa using V⟩;have w:∀l:zt,yo l (J.ja.set d v) d=yo l J.ja d:=fun l=>sa l fun p y _=>by rw[uq,za (by omega)]
 have f:∀(i:Nat) (l:zt) (s c:yJ),r.qc[i]?=some l->J.qy[i]?=some s->R[i]?=some c->c.qi.length=3/\(∀k,k<=(y7 l d).length->k<3->Qc c.rows 0 ((yo l J.ja d).take k)=some (c.qi.getD k 0))/\(Qc c.rows 0 (yo l J.ja d)).isSome=true/\(∀k,k<=(y7 l (d+1)).length->k<3->Qc c.rows 0 ((yo l (J.ja.set d v) (d+1)).take k)=some (c.qi.getD k 0))/\(Qc c.rows 0 (yo l (J.ja.set d v) (d+1))).isSome=true:=by
  intro i l s c g n a;obtain⟨n1,Q,U⟩:=h.qi i l s g n;rw[X i s n] at a;by_cases H:zH l d=true
  ·have z:=QG g H;rw[Fk (DD r d) z] at a;simp only[zr] at a;obtain⟨l',s0,u,I,_,q4,q5,_,_,_,q9⟩:=h.hold S hf z;simp only at u I q5;rw[g] at u;rw[n] at I;simp only[zr] at u I;subst u;subst I;have A:=hv _ z;obtain⟨bb,B⟩:=my.1 A;have C:=q9 v;rw[B] at C;have y:yo l (J.ja.set d v) (d+1)=yo l J.ja d++[v]:=by rw[AX l _ _ _ (by omega),zb H]
   have b:c.rows=s.rows:=by rw[←a];unfold setDown;split<;>rfl
   have K:(yo l J.ja d).length=(y7 l d).length:=mL _ _ _;have P:∀k,k<=(y7 l d).length->c.qi.getD k 0=s.qi.getD k 0:=by
    intro k o;rw[←a];unfold setDown;split
    ·rfl
    ·rw[uq,za (by omega)]
   have Y:zG s.rows (s.qi.getD (y7 l d).length 0) v=some bb:=by
    unfold j4 at B;simpa [List.getD,n] using B
   refine⟨by rw[←a];unfold setDown;split<;>simp[n1],fun k o T=>by rw[b,P k o];exact Q k o T,by rw[b];exact U,fun k o T=>?_,by rw[b,y,C];rfl⟩;rw[b,y];rw[lz,zb H,yv,List.length_singleton] at o;by_cases O:k<=(y7 l d).length
   ·rw[List.take_append_of_le_length (by omega),P k O];exact Q k O T
   ·have:k=(y7 l d).length+1:=by omega
    subst this;rw[xi (by simp[K]),C,←a];unfold setDown;rw[za (by omega)];simp only;rw[uq,zb ⟨rfl,by omega⟩,Y];rfl
  ·have ab:∀Z,(i,Z)∉yW r d:=fun Z z=>by
    obtain⟨l',u,I,_⟩:=D7 z;rw[g] at u;simp only[zr] at u;subst u;exact H I
   rw[J7 ab] at a;simp only[zr] at a;subst a;have y:yo l (J.ja.set d v) (d+1)=yo l J.ja d:=by rw[AX l _ _ _ (by omega),za H]
   have A:y7 l (d+1)=y7 l d:=by rw[lz,za H]
   exact⟨n1,Q,U,by rw[y,A];exact Q,by rw[y];exact U⟩
 have j:=fun(i:Nat) (l:zt) (c:yJ) (g:r.qc[i]?=some l) (_:R[i]?=some c)=>h.stat.some hf g;have N:∀x∈r.qp.zip Ns,uC x.1<=d->zF x.1 (J.ja.set d v)=zF x.1 J.ja:=fun x _ o=>nk x.1 fun p y=>by
  have:=rE x.1 y;rw[uq,za (by omega)]
 refine⟨trivial,G,M,fun h5=>?_,⟨e,fun i l c g a=>?_,fun x t o=>?_,fun i E=>?_,fun i E=>?_⟩,fun hb=>⟨e,fun i l c g a=>?_,fun x t o=>?_,fun i E=>?_,fun i E=>?_⟩⟩
 ·rw[zb h5,uq,zb ⟨rfl,by simp;omega⟩]
 ·obtain⟨s,n⟩:=j i l c g a;obtain⟨a1,a2,a3,_,_⟩:=f i l s c g n a;exact⟨a1,by rw[w];exact a2,by rw[w];exact a3⟩
 ·show uk x.2 (zF x.1 (J.ja.set d v))=none;rw[N x t o];exact h.nob x t o
 ·show(if d+1<5 then _ else _:List Nat).getD i 0=(J.ja.set d v).getD i 0+1;rw[G i E,uq,za (by omega)];exact h.from i E
 ·show(J.ja.set d v).getD i 0<W;rw[uq,za (by omega)];exact h.small i E
 ·obtain⟨s,n⟩:=j i l c g a;obtain⟨a1,_,_,a4,a5⟩:=f i l s c g n a;exact⟨a1,a4,a5⟩
 ·show uk x.2 (zF x.1 (J.ja.set d v))=none;by_cases L:uC x.1<=d
  ·rw[N x t L];exact h.nob x t L
  ·cases z:uk x.2 (zF x.1 (J.ja.set d v)) with
   |none=>rfl
   |some m=>
    have:=(ta e (d+1)).2 ⟨x,t,by omega,by show(uk x.2 (zF x.1 (J.ja.set d v))).isSome=true;rw[z];rfl⟩;rw[hb] at this;cases this
 ·show(if d+1<5 then _ else _:List Nat).getD i 0=(J.ja.set d v).getD i 0+1;by_cases D:i=d
  ·subst D;rw[M,uq,zb ⟨rfl,by omega⟩]
  ·rw[G i (by omega),uq,za (by omega)];exact h.from i (by omega)
 ·show(J.ja.set d v).getD i 0<W;by_cases D:i=d
  ·subst D;rw[uq,zb ⟨rfl,by omega⟩];exact hW
  ·rw[uq,za (by omega)];exact h.small i (by omega)
end
section
variable {d W:Nat}{Ts Ns:List zi}
def L4(d:Nat)(vals:List Nat)(f:Nat)(y:List Nat):Prop:=(∀p,p<d->y.getD p 0=vals.getD p 0)/\f<=y.getD d 0∨∃i,i<d/\(∀p,p<i->y.getD p 0=vals.getD p 0)/\vals.getD i 0<y.getD i 0
def Ry(r:zq)(Ts Ns:List zi)(E:zk->Prop)(d:Nat)(vals:List Nat)(f:Nat):Prop:=∀y,qT r Ts Ns y->E (zF r.head y)∨L4 d vals f y
theorem Gd{l:zt}{e:Nat}(a:∀p,zH l p=true->p<d)(b:d<=e):y7 l e=y7 l d:=by
 induction b with
 |refl=>rfl
 |@step m h c=>
  rw[lz,za (fun q=>by have:=a _ q;have:d<=m:=h;omega),c]
def lP(d:Nat)(vals y:List Nat):List Nat:=(List.range 5).map fun p=>if p<d then vals.getD p 0 else y.getD p 0
theorem iE(d:Nat)(vals y:List Nat){p:Nat}(a:p<5):(lP d vals y).getD p 0=if p<d then vals.getD p 0 else y.getD p 0:=by
 simp[lP,List.getD,a]
theorem Na{T:zi}{a:Nat}{p q:zk}(h:(Qc T a (p++q)).isSome=true):(Qc T a p).isSome=true:=by
 rw[mC] at h;cases b:Qc T a p with
 |none=>rw[b] at h;cases h
 |some x=>rfl
theorem Q6.mix{r:zq}{J:zy}(h:Q6 r Ts Ns W J d)(k:gK r)(C:gQ r Ts W)(E:d<=r.vars){y:List Nat}(n:qT r Ts Ns y)(A:∀p:Nat,(p:Int)<=xt r (d:Nat)->y.getD p 0=J.ja.getD p 0):qT r Ts Ns (lP d J.ja y)/\zF r.head (lP d J.ja y)=zF r.head y:=by
 obtain⟨_,_,D,B,z⟩:=pJ r (jd:=(d:Nat)) (by omega);have w:=k.vars;have m:∀{l:zt},(∀p,zH l p=true->p<r.vars)->(∀p,zH l p=true->p<d)->∀p,zH l p=true->(lP d J.ja y).getD p 0=J.ja.getD p 0:=fun g b p f=>by
  have:=g p f;rw[iE d _ _ (by omega),zb (b p f)]
 have j:∀{l:zt},(∀p,zH l p=true->p<r.vars)->(∀p,zH l p=true->p<d->(p:Int)<=xt r (d:Nat))->∀p,zH l p=true->(lP d J.ja y).getD p 0=y.getD p 0:=fun g b p f=>by
  have:=g p f;rw[iE d _ _ (by omega)];split
  ·rename_i u;exact(A p (b p f u)).symm
  ·rfl
 refine⟨⟨fun i l T g o=>⟨fun t=>(n.1 i l T g o).1 t,fun t=>?_⟩,fun x q=>?_⟩,nk _ (j k.head fun p f b=>by have:=ik r.head (jd:=((d:Nat):Int)) f (by omega);omega)⟩
 ·have a:=fe g;rcases Co (B l a) with b|b
  ·obtain⟨s,v⟩:=h.stat.some C g;have c:=h.stat.side v;rw[o] at c;simp only[zr] at c;have e:yo l (lP d J.ja y) 5=yo l J.ja d:=by
    rw[sa l (y:=J.ja) fun p _ f=>m (k.qc l a) b p f];unfold yo;rw[Gd b (by omega)]
   rw[e,c];exact(h.qi i l s g v).2.2
  ·rw[sa l (y:=y) fun p _ f=>j (k.qc l a) b p f];exact(n.1 i l T g o).2 t
 ·have a:=(List.of_mem_zip q).1;rcases Co (z x.1 a) with b|b
  ·rw[nk x.1 (m (k.qp x.1 a) b)];exact h.nob x q (Bf x.1 b)
  ·rw[nk x.1 (j (k.qp x.1 a) b)];exact n.2 x q
theorem Q6.sol{r:zq}{J:zy}(h:Q6 r Ts Ns W J d)(b:gK r)(g:gQ r Ts W)(w:d<r.vars){y:List Nat}(n:qT r Ts Ns y)(u:∀p,p<d->y.getD p 0=J.ja.getD p 0):∀x∈yW r d,(j4 J x (y.getD d 0)).isSome=true:=by
 intro x k;obtain⟨l,s,t,f,c,_,_,_,_,_,m⟩:=h.hold b g k;have j:=b.vars;have i:=h.stat.side f;have o:yM l≠0:=by
  rw[dI];intro q;have:d∈y7 l 5:=(pm l 5 d).2 ⟨by omega,c⟩;rw[lG.1 q] at this;cases this
 have a:=(n.1 x.1 l s.rows t i).2 o;rw[←m];have e:yo l J.ja d++[y.getD d 0]=yo l y (d+1):=by
  have:yo l y d=yo l J.ja d:=sa l fun p v _=>u p v;unfold yo at this ⊢;rw[lz,zb c,vC,this];rfl
 rw[e,ed l y (show d+1<=5 by omega)];unfold xZ at a;rw[←qU (y7 l (d+1)).length (yo l y 5)] at a;exact Na a
def nM(W:Nat):Nat->Nat
 |0=>1
 |j+1=>W*(1+nM W j)+1
def fu(W vars d f:Nat):Nat:=(W-f)*(1+nM W (vars-d-1))+1
def gF(W vars:Nat)(vals:List Nat):Nat->Nat
 |0=>0
 |d+1=>gF W vars vals d+fu W vars d (vals.getD d 0+1)
def vr(W vars d:Nat)(vals:List Nat)(f:Nat):Nat:=gF W vars vals d+if d<vars then fu W vars d f else 1
theorem D1(W vars:Nat){x y:List Nat}:∀d,(∀p,p<d->x.getD p 0=y.getD p 0)->gF W vars x d=gF W vars y d
 |0,_=>rfl
 |d+1,h=>by simp only[gF];rw[D1 W vars d (fun p a=>h p (by omega)),h d (by omega)]
theorem Fq(W vars:Nat)(vals:List Nat){a b:Nat}(h:a<=b):gF W vars vals a<=gF W vars vals b:=by
 induction h with
 |refl=>exact zf _
 |step h c=>simp only[gF];omega
theorem Oe{vars f v:Nat}{vals:List Nat}(a:d<vars)(g:d<vals.length)(i:f<=v)(l:v<W):vr W vars (d+1) (vals.set d v) 0<vr W vars d vals f/\vr W vars d (vals.set d v) (v+1)<vr W vars d vals f:=by
 have b:gF W vars (vals.set d v) d=gF W vars vals d:=D1 W vars d fun p n=>by rw[uq,za (by omega)]
 have c:(vals.set d v).getD d 0=v:=by rw[uq,zb ⟨rfl,g⟩]
 have h:(if d+1<vars then fu W vars (d+1) 0 else 1)=nM W (vars-d-1):=by
  split
  ·obtain⟨j,e⟩:∃j,vars-d-1=j+1:=⟨vars-d-2,by omega⟩;rw[e];unfold fu;rw[show vars-(d+1)-1=j by omega,Nat.sub_zero];rfl
  ·rw[show vars-d-1=0 by omega];rfl
 have m:fu W vars d f=fu W vars d (v+1)+(v+1-f)*(1+nM W (vars-d-1)):=by
  unfold fu;rw[show W-f=(W-(v+1))+(v+1-f) by omega,fH];omega
 have k:1*(1+nM W (vars-d-1))<=(v+1-f)*(1+nM W (vars-d-1)):=gN _ (by omega);refine⟨?_,?_⟩
 ·unfold vr;rw[zb a,h];simp only[gF];rw[b,c];omega
 ·unfold vr;rw[zb a,zb a,b];omega
theorem AR(W vars d:Nat)(vals:List Nat)(f:Nat):1<=vr W vars d vals f:=by
 unfold vr;split
 ·unfold fu;omega
 ·omega
theorem Dh{vars b f:Nat}{vals:List Nat}(h:d<=vars)(e:b<d):vr W vars b vals (vals.getD b 0+1)<vr W vars d vals f:=by
 have a:vr W vars b vals (vals.getD b 0+1)=gF W vars vals (b+1):=by
  unfold vr;rw[zb (by omega)];rfl
 have c:=Fq W vars vals (show b+1<=d by omega);have g:1<=if d<vars then fu W vars d f else 1:=by
  split
  ·unfold fu;omega
  ·omega
 rw[a];unfold vr;omega
def JQ(r:zq)(Ts Ns:List zi)(W:Nat)(E:zk->Prop)(M:Nat)(a:zy):Bool->Prop
 |true=>Q6 r Ts Ns W a r.vars/\Ry r Ts Ns E r.vars a.ja 0/\vr W r.vars r.vars a.ja 0<=M
 |false=>(∀y,qT r Ts Ns y->E (zF r.head y))/\qX r Ts Ns a
theorem qX.ok{r:zq}{Ts Ns:List zi}{W:Nat}{J:zy}(h:qX r Ts Ns J)(c:gQ r Ts W):i7 J:=by
 intro i;cases b:J.qy[i]? with
 |none=>
  have:J.qy.getD i yJ.zero=yJ.zero:=by simp[List.getD,b]
  rw[this];intro a g;simp[yJ.zero] at g
 |some s=>
  have:J.qy.getD i yJ.zero=s:=by simp[List.getD,b]
  rw[this];have e:=h.side b;have j:i<r.qc.length:=by rw[←c.len];exact(jA.1 e).1
  obtain⟨⟨f,hinv⟩,_⟩:=(c.ok i _ _ (yr j) e).1;exact hinv.node
theorem Hs{r:zq}(F:gK r)(L:gQ r Ts W)(E:zk->Prop)(A:Nat)(hA:W*(r.qc.length+1)+r.qc.length<=A):
  ∀(n:Nat) (J:zy) (d f:Nat),Q6 r Ts Ns W J d->d<=r.vars->(d<r.vars->J.from.getD d 0=f)->Ry r Ts Ns E d J.ja f->vr W r.vars d J.ja f+A<n->∃I b,qO n J (d:Nat)=some (I,b)/\JQ r Ts Ns W E (vr W r.vars d J.ja f) I b:=by
 intro n;induction n with
 |zero=>intro J d f _ _ _ _ h;omega
 |succ n ih=>
  intro J d f h hd Y X hn;have ap:=F.vars;have al:=AR W r.vars d J.ja f;unfold qO;have Q:=h.stat.vars;by_cases j:d<r.vars
  ·rw[zb ⟨by omega,by rw[Q];omega,by omega⟩];simp only[Int.toNat_natCast];have a:=h.stat.holdsAt (show d<5 by omega);have ab:J.je.getD d []≠[]:=by
    rw[a];obtain⟨l,ag,ae⟩:=F.safe d j;obtain⟨i,hi,rfl⟩:=vG ag;intro q;have:=QG (yr hi) ae;rw[q] at this;cases this
   have am:(yW r d).length<=r.qc.length:=by
    unfold yW;refine zT (p4 _ _) ?_;simp
   have aq:W*((yW r d).length+1)+(yW r d).length<=A:=by
    have:W*((yW r d).length+1)<=W*(r.qc.length+1):=lH _ (by omega);omega
   obtain⟨D,ah,a1,a2,a3⟩:=N1 W J d (J.from.getD d 0) n (by omega) (h.stat.ok L) ab (by
    rw[a];intro x z;obtain⟨_,_,_,_,_,_,_,q,_⟩:=h.hold F L z;exact q) (by
    rw[a];intro x z v hv;obtain⟨l,s,_,u,_,_,_,_,_,q8,_⟩:=h.hold F L z;unfold j4 at hv;obtain⟨b,C⟩:=my.1 hv;have:=(fh C).2;rw[show J.qy.getD x.1 yJ.zero=s by simp[List.getD,u]] at this;omega) (by rw[a];omega)
   rw[a] at a3;rw[Y j] at a1 a3;rw[Y j,a1];have h1:=h.same a2;have k:D.ja=J.ja:=by rw[a2]
   have T:D.from=J.from:=by rw[a2]
   have O:=fun x v=>KK a2 x v;cases ah with
   |none=>
    simp only;have af:D.jg.getD d 0=xt r (d:Nat):=by rw[h1.stat.jg];simp[List.getD,show d<5 by omega]
    rw[af];obtain⟨b1,b2,b3,b4,b5⟩:=pJ r (jd:=((d:Nat):Int)) (by omega);have G:∀y,qT r Ts Ns y->(∀p:Nat,(p:Int)<=xt r (d:Nat)->y.getD p 0=J.ja.getD p 0)->E (zF r.head y):=by
     intro y o ha;obtain⟨m1,m2⟩:=h.mix F L hd o ha;have K:∀p,p<d->(lP d J.ja y).getD p 0=J.ja.getD p 0:=fun p m=>by rw[iE d _ _ (by omega),zb m]
     rw[←m2];rcases X _ m1 with q|⟨_,q⟩|⟨i,g,_,N⟩
     ·exact q
     ·obtain⟨x,z,P⟩:=a3 _ q;have:=h.sol F L j m1 K x z;rw[P] at this;cases this
     ·rw[K i g] at N;omega
    by_cases ak:xt r (d:Nat)<0
    ·have ad:xt r (d:Nat)=-1:=by omega
     rw[ad];cases n with
     |zero=>omega
     |succ n=>
      refine⟨D,false,?_,?_,h1.stat⟩
      ·unfold qO;rw[za (by omega)];have:¬((-1:Int)≥(D.vars:Int)):=by omega
       simp[this]
      ·intro y o;exact G y o fun p m=>by omega
    ·obtain⟨b,C⟩:∃b:Nat,xt r (d:Nat)=(b:Int):=⟨(xt r (d:Nat)).toNat,by omega⟩;rw[C] at G b1 ⊢;have ac:b<d:=by omega
     have hM:=Dh (W:=W) (vars:=r.vars) (f:=f) (vals:=J.ja) hd ac;obtain⟨I,H,V,t⟩:=ih D b (J.ja.getD b 0+1) (h1.back (by omega)) (by omega) (fun _=>by rw[T,h.from b ac]) (by
      rw[k];intro y o;rcases X y o with q|⟨g,u⟩|⟨i,g,u,N⟩
      ·exact zg q
      ·exact zg (G y o fun p m=>g p (by omega))
      ·by_cases ao:i<=b
       ·refine ze ?_;by_cases U:i=b
        ·subst U;exact zg ⟨u,by omega⟩
        ·exact ze ⟨i,by omega,u,N⟩
       ·exact zg (G y o fun p m=>u p (by omega))) (by rw[k];omega)
     refine⟨I,H,V,?_⟩;rw[k] at t;cases H with
     |true=>exact⟨t.1,t.2.1,by have:=t.2.2;omega⟩
     |false=>exact t
   |some v=>
    simp only;obtain⟨c1,c2,c3⟩:=a3;have aa:v<W:=by
     obtain⟨x,z⟩:=List.exists_mem_of_ne_nil _ (a ▸ ab);obtain⟨l,s,_,u,_,_,_,_,_,q8,_⟩:=h.hold F L z;have hv:=c2 x z;unfold j4 at hv;obtain⟨b,C⟩:=my.1 hv;have:=(fh C).2;rw[show J.qy.getD x.1 yJ.zero=s by simp[List.getD,u]] at this;omega
    obtain⟨M,t2,t3,t4,t5,t6⟩:=h1.take F L j (v:=v) (fun x z=>by rw[O];exact c2 x z) aa;rw[k] at M;have Z:d<J.ja.length:=by rw[h.stat.vlen];omega
    obtain⟨m1,m2⟩:=Oe (W:=W) (vars:=r.vars) (f:=f) (vals:=J.ja) j Z c1 aa;have B:∀y,qT r Ts Ns y->(∀p,p<d->y.getD p 0=J.ja.getD p 0)->f<=y.getD d 0->v<=y.getD d 0:=by
     intro y o ha hq;false_or_by_contra
     rename_i ar;obtain⟨x,z,P⟩:=c3 (y.getD d 0) hq (by omega);have:=h.sol F L j o ha x z;rw[P] at this;cases this
    have c:∀p,p<d->(J.ja.set d v).getD p 0=J.ja.getD p 0:=fun p m=>by rw[uq,za (by omega)]
    have w:(J.ja.set d v).getD d 0=v:=by rw[uq,zb ⟨rfl,Z⟩]
    by_cases C:uy (ue D d v) (d+1)=true
    ·rw[zb C];obtain⟨x,z,hk,hm⟩:=(ta t5.stat (d+1)).1 C;rw[M] at hm;obtain⟨I,H,V,t⟩:=ih (ue D d v) d (v+1) t5 hd (fun _=>t3) (by
      rw[M];intro y o;rcases X y o with q|⟨g,u⟩|⟨i,g,u,N⟩
      ·exact zg q
      ·have ai:=B y o g u;by_cases S:y.getD d 0=v
       ·have:=o.2 x z;rw[nk x.1 (y:=J.ja.set d v) fun p m=>?_] at this
        ·rw[this] at hm;cases hm
        ·have an:=rE x.1 m;by_cases R:p=d
         ·rw[R,w,S]
         ·rw[c p (by omega),g p (by omega)]
       ·exact ze (zg ⟨fun p m=>by rw[c p m];exact g p m,by omega⟩)
      ·exact ze (ze ⟨i,g,fun p m=>by rw[c p (by omega)];exact u p m,by rw[c i g];exact N⟩)) (by rw[M];omega)
     refine⟨I,H,V,?_⟩;rw[M] at t;cases H with
     |true=>exact⟨t.1,t.2.1,by have:=t.2.2;omega⟩
     |false=>exact t
    ·rw[za C];have C:uy (ue D d v) (d+1)=false:=by simpa using C
     have e:((d:Nat):Int)+1=((d+1:Nat):Int):=by omega
     rw[e];obtain⟨I,H,V,t⟩:=ih (ue D d v) (d+1) 0 (t6 C) (by omega) (fun _=>t4 (by omega)) (by
      rw[M];intro y o;rcases X y o with q|⟨g,u⟩|⟨i,g,u,N⟩
      ·exact zg q
      ·have ai:=B y o g u;by_cases S:y.getD d 0=v
       ·refine ze (zg ⟨fun p m=>?_,zx _⟩);by_cases R:p=d
        ·rw[R,w,S]
        ·rw[c p (by omega)];exact g p (by omega)
       ·exact ze (ze ⟨d,by omega,fun p m=>by rw[c p m];exact g p m,by rw[w];omega⟩)
      ·exact ze (ze ⟨i,by omega,fun p m=>by rw[c p (by omega)];exact u p m,by rw[c i g];exact N⟩)) (by rw[M];omega)
     refine⟨I,H,V,?_⟩;rw[M] at t;cases H with
     |true=>exact⟨t.1,t.2.1,by have:=t.2.2;omega⟩
     |false=>exact t
  ·have aj:d=r.vars:=by omega
   subst aj;rw[za (by rw[Q];omega)];refine⟨J,true,by simp[Q],h,?_,?_⟩
   ·intro y o;rcases X y o with q|⟨g,_⟩|q
    ·exact zg q
    ·exact ze (zg ⟨g,zx _⟩)
    ·exact ze (ze q)
   ·unfold vr;rw[za j,za j];exact zf _
end
def mH(r:zq)(a Ns:List zi)(W:Nat)(E:zk->Prop)(J:zy)(M:Nat):Prop:=
 J.ql=-1/\qX r a Ns J/\(∀y,qT r a Ns y->E (zF r.head y))∨(∀(i:Nat) (T:zi),a[i]?=some T->T.count≠0)/\∃(d f:Nat),J.ql=(d:Nat)/\d<=r.vars/\Q6 r a Ns W J d/\(d<r.vars->J.from.getD d 0=f)/\Ry r a Ns E d J.ja f/\vr W r.vars d J.ja f<=M
theorem rD{d:Nat}(c:d≠0)(e:d<=3):yV d=d:=by unfold yV;by_cases b:d<1<;>by_cases a:d>3<;>simp[b,a]<;>omega
theorem tm.count{T:zi}{l:zt}{y:List Nat}(h:tm T l y)(b:vo T)(e:T.ql=yV (yM l))(g:l.qg.length<=3):T.count≠0:=by
 by_cases a:yM l=0
 ·exact h.1 a
 ·have f:=h.2 a;have d:=iC l 5;rw[←dI] at d;have c:=(qV T _).2 ⟨by rw[mL,←dI,e,rD a (by omega)],f⟩;have:=ny c;rw[b.cnt] at this;omega
def lK(r:zq)(qc qp:List zi):zy:={head:=r.head,vars:=r.vars,qy:=qc.map (fun T=>⟨T,[0,0,0]⟩),bars:=(r.qp.zip qp).map (fun x=>⟨x.1,uC x.1,x.2⟩),je:=(List.range 5).map (yW r),jg:=(List.range 5).map (fun p=>xt r (p:Nat)),last:=xt r r.vars,ja:=[0,0,0,0,0],«from»:=[0,0,0,0,0],ql:=if qc.any (fun T=>T.count == 0) then -1 else 0,jf:=0}
theorem Gi(r:zq)(a Ns:List zi):xv r a Ns=if uy (lK r a Ns) 0 then{lK r a Ns with ql:=-1} else lK r a Ns:=rfl
theorem oi(r:zq)(a Ns:List zi):∃b,xv r a Ns={lK r a Ns with ql:=b}/\b=if uy (xv r a Ns) 0=true then -1 else if a.any (fun T=>T.count == 0)=true then -1 else 0:=by
 have d:∀b:Int,uy {lK r a Ns with ql:=b} 0=uy (lK r a Ns) 0:=fun _=>rfl;rw[Gi];by_cases c:uy (lK r a Ns) 0=true
 ·rw[zb c];exact⟨-1,rfl,by rw[d,zb c]⟩
 ·rw[za c];exact⟨_,rfl,by rw[za c]⟩
theorem N5(r:zq)(a Ns:List zi):qX r a Ns (xv r a Ns)/\(xv r a Ns).ja=[0,0,0,0,0]/\(xv r a Ns).from=[0,0,0,0,0]/\(xv r a Ns).qy=a.map (fun T=>⟨T,[0,0,0]⟩):=by
 obtain⟨b,h,_⟩:=oi r a Ns;rw[h];exact⟨⟨rfl,rfl,rfl,rfl,rfl,rfl,by simp[lK,Function.comp_def],rfl,rfl⟩,rfl,rfl,rfl⟩
theorem Me{r:zq}{b Ns:List zi}{W:Nat}(F:gK r)(D:gQ r b W)(E:zk->Prop):mH r b Ns W E (xv r b Ns) (vr W r.vars 0 [] 0):=by
 obtain⟨c,J,A,w⟩:=N5 r b Ns;have e:(∃(i:Nat) (T:zi),b[i]?=some T/\T.count=0)->∀y,¬qT r b Ns y:=by
  rintro⟨i,T,g,n⟩ y f;have j:i<r.qc.length:=by rw[←D.len];exact(jA.1 g).1
  have v:=yr j;obtain⟨G,I,_⟩:=D.ok i _ T v g;exact(f.1 i _ T v g).count G I (F.qg _ (fe v)) n
 have d:uy (xv r b Ns) 0=true->∀y,¬qT r b Ns y:=by
  intro h y f;obtain⟨x,z,u,q⟩:=(ta c 0).1 h;have:=f.2 x z;rw[nk x.1 (y:=(xv r b Ns).ja) fun p o=>by have:=rE x.1 o;omega] at this;rw[this] at q;cases q
 have a:(xv r b Ns).ql=if uy (xv r b Ns) 0=true then -1 else if b.any (fun T=>T.count == 0)=true then -1 else 0:=by
  obtain⟨L,g,n⟩:=oi r b Ns;rw[←n,g]
 by_cases h:uy (xv r b Ns) 0=true
 ·left;rw[zb h] at a;exact⟨a,c,fun y f=>zB f (d h y)⟩
 ·rw[za h] at a;by_cases t:b.any (fun T=>T.count == 0)=true
  ·left;rw[zb t] at a;refine⟨a,c,fun y f=>zB f (e ?_ y)⟩;obtain⟨T,g,n⟩:=kT.1 t;obtain⟨i,j,rfl⟩:=vG g;exact⟨i,_,yr j,by simpa using n⟩
  ·right;rw[za t] at a;refine⟨fun i T C H=>t (kT.2 ⟨T,fe C,by simp[H]⟩),0,0,a,zx _,⟨c,fun i l s v B=>?_,fun x z u=>?_,fun i j=>by omega,fun i j=>by omega⟩,fun _=>by rw[A];rfl,fun y _=>ze (zg ⟨fun p o=>by omega,zx _⟩),?_⟩
   ·rw[w] at B;simp only[li,vE] at B;obtain⟨T,C,rfl⟩:=B;have o:yo l (xv r b Ns).ja 0=[]:=rfl;refine⟨rfl,fun k u K=>?_,by rw[o];rfl⟩;have:k=0:=by simp[y7] at u;exact u
    subst this;rw[o];rfl
   ·cases q:uk x.2 (zF x.1 (xv r b Ns).ja) with
    |none=>rfl
    |some m=>exact zB ((ta c 0).2 ⟨x,z,by omega,by rw[q];rfl⟩) h
   ·unfold vr;exact zf _
theorem He{r:zq}{v Ns:List zi}{W:Nat}(w:gK r)(V:gQ r v W)(E:zk->Prop)(A:Nat)(hA:W*(r.qc.length+1)+r.qc.length<=A)(n:Nat)(J:zy)(M:Nat)(h:mH r v Ns W E J M)(hn:M+A+1<n):
  ∃e b,dF n J=some (e,b)/\(b=false->∀y,qT r v Ns y->E (zF r.head y))/\(b=true->qT r v Ns e.ja/\e.head=r.head/\∃R,R<M/\mH r v Ns W (fun x=>E x∨x=zF r.head e.ja) e R):=by
 unfold dF;rcases h with⟨F,S,H⟩|⟨t,d,f,F,S,H,h4,h5,h6⟩
 ·rw[F];obtain⟨k,rfl⟩:∃k,n=k+1:=⟨n-1,by omega⟩;refine⟨{J with ql:=-1},false,?_,fun _=>H,fun q=>by cases q⟩;unfold qO;have:¬((-1:Int)≥(J.vars:Int)):=by omega
  simp[this]
 ·rw[F];obtain⟨e,b,s1,X⟩:=Hs w V E A hA n J d f H S h4 h5 (by omega);rw[s1];simp only;cases b with
  |false=>exact⟨_,false,rfl,fun _=>X.1,fun q=>by cases q⟩
  |true=>
   obtain⟨c,t2,t3⟩:=X;have G:=w.vars;have z:qT r v Ns e.ja:=by
    refine⟨fun i l T K O=>⟨fun _=>t i T O,fun _=>?_⟩,fun x P=>?_⟩
    ·obtain⟨s,Y⟩:=c.stat.some V K;have m:=c.stat.side Y;rw[O] at m;simp only[zr] at m;rw[Oh G (w.qc l (fe K)),m];exact(c.qi i l s K Y).2.2
    ·exact c.nob x P (Bf x.1 (w.qp x.1 (List.of_mem_zip P).1))
   refine⟨_,true,rfl,fun q=>(by cases q),fun _=>⟨z,c.stat.head,?_⟩⟩;obtain⟨b1,b2,b3,_,_⟩:=pJ r (jd:=((r.vars:Nat):Int)) (by omega);have j:=c.stat.last;have u:∀y,(∀p:Nat,(p:Int)<=xt r (r.vars:Nat)->y.getD p 0=e.ja.getD p 0)->zF r.head y=zF r.head e.ja:=fun y ha=>nk r.head fun p D=>ha p (by
    have F:=w.head p D;have:=ik r.head (jd:=((r.vars:Nat):Int)) D (by omega);omega)
   have g:qX r v Ns {e with ql:=e.last}:=⟨c.stat.head,c.stat.vars,c.stat.je,c.stat.jg,c.stat.last,c.stat.bars,c.stat.qy,c.stat.vlen,c.stat.flen⟩;have N:=AR W r.vars d J.ja f;by_cases U:xt r (r.vars:Nat)<0
   ·refine⟨M-1,by omega,zg ⟨by show e.last=-1;rw[j];omega,g,fun y L=>?_⟩⟩;exact ze (u y fun p D=>by omega)
   ·obtain⟨o,hb⟩:∃b:Nat,xt r (r.vars:Nat)=(b:Int):=⟨(xt r (r.vars:Nat)).toNat,by omega⟩;have C:o<r.vars:=by omega
    have hM:=Dh (W:=W) (vars:=r.vars) (f:=0) (vals:=e.ja) (zf _) C;have a:=c.back (b:=o) (by omega);refine⟨vr W r.vars o e.ja (e.ja.getD o 0+1),by omega,ze ⟨t,o,e.ja.getD o 0+1,by show e.last=_;rw[j,hb],by omega,⟨g,a.qi,a.nob,a.from,a.small⟩,fun _=>c.from o C,fun y L=>?_,zf _⟩⟩;rcases t2 y L with q|⟨Q,_⟩|⟨i,Q,I,Z⟩
    ·exact zg (zg q)
    ·exact zg (ze (u y fun p D=>Q p (by omega)))
    ·by_cases aa:i<=o
     ·refine ze ?_;by_cases B:i=o
      ·subst B;exact zg ⟨I,by omega⟩
      ·exact ze ⟨i,by omega,I,Z⟩
     ·exact zg (ze (u y fun p D=>I p (by omega)))
section
variable {l:zt}{a W:Nat}{row:zk}
structure qu (l:zt) (a W:Nat):Prop where
 len:l.qg.length=a
 le3:a<=3
 lev:∀t∈l.qg,t.var=true->t.num<5/\yN l t.num=some t.level
 con:∀t∈l.qg,t.var=false->t.num<W
def PG(a:Nat)(row:zk):Prop:=row.length=3/\∀i,a<=i->row.getD i 0=0
theorem oj(l:zt)(y:List Nat){i:Nat}(b:i<3):(zF l y).getD i 0=Pz l y i:=by
 match i,b with
 |0,_=>rfl
 |1,_=>rfl
 |2,_=>rfl
theorem tF(h:qu l a W)(y:List Nat):PG a (zF l y):=by
 refine⟨rfl,fun i c=>?_⟩;by_cases b:i<3
 ·rw[oj l y b];unfold Pz;rw[za (by rw[h.len];omega)]
 ·simp[List.getD,zF];rw[kp (by simp;omega)];rfl
theorem BL{x y:zk}(b:PG a x)(d:PG a y)(h:∀i,i<a->i<3->x.getD i 0=y.getD i 0):x=y:=by
 refine gS (by rw[b.1,d.1]) fun i c f=>?_;have e:x.getD i 0=y.getD i 0:=by
  by_cases g:i<a
  ·exact h i g (by rw[b.1] at c;exact c)
  ·rw[b.2 i (by omega),d.2 i (by omega)]
 simpa [List.getD,c,f] using e
theorem MZ{p d:Nat}(c:zH l p=true)(e:p<d):(y7 l d)[(y7 l p).length]?=some p:=by
 obtain⟨t,b⟩:=ea l (show p+1<=d by omega);rw[←b,lz,zb c];simp
theorem rG{p j:Nat}(h:yN l p=some j)(c:p<5):(y7 l 5)[j]?=some p:=by
 rw[oa] at h;split at h
 ·rename_i b;simp only[zr] at h;subst h;exact MZ b c
 ·cases h
theorem wl{p j:Nat}(h:yN l p=some j)(b:p<5):j<yM l:=by
 have:=rG h b;rw[dI];exact(jA.1 this).1
theorem eo(h:qu l a W):yM l<=3:=by
 have:=iC l 5;rw[dI];have:=h.len;have:=h.le3;omega
theorem qu.leveled{l:zt}{a W:Nat}(h:qu l a W){t:ya}(d:t∈l.qg):leveled t=t.var:=by
 unfold Go.Proofs.YteampbddflhngaaGreat.leveled;cases c:t.var with
 |false=>rfl
 |true=>
  obtain⟨e,b⟩:=h.lev t d c;have:=wl b e;have:=eo h;simp;omega
theorem nK(l:zt)(row f:zk)(i:Nat):(qD l row f i).length=f.length:=by unfold qD;split<;>simp
theorem ry(l:zt)(row:zk):(ul l row).length=3:=by unfold ul;rw[nK,nK,nK];rfl
theorem ix{g:Nat->Nat}(u:∀i (d:i<l.qg.length),leveled l.qg[i]=true->row.getD i 0=g l.qg[i].level){f:zk}{m:Nat}(w:f.length=3)
  (t:∀j,j<3->(f.getD j 0=g j∨f.getD j 0=0)/\((∃i,∃d:i<l.qg.length,i<m/\leveled l.qg[i]=true/\l.qg[i].level=j)->f.getD j 0=g j)/\((¬∃i,∃d:i<l.qg.length,leveled l.qg[i]=true/\l.qg[i].level=j)->f.getD j 0=0)):
  ∀j,j<3->((qD l row f m).getD j 0=g j∨(qD l row f m).getD j 0=0)/\((∃i,∃d:i<l.qg.length,i<m+1/\leveled l.qg[i]=true/\l.qg[i].level=j)->(qD l row f m).getD j 0=g j)/\((¬∃i,∃d:i<l.qg.length,leveled l.qg[i]=true/\l.qg[i].level=j)->(qD l row f m).getD j 0=0):=by
 intro j o;obtain⟨p,r,s⟩:=t j o;unfold qD;by_cases c:m<l.qg.length/\leveled (l.qg.getD m ⟨false,0,0⟩)=true
 ·rw[zb c];have e:l.qg.getD m ⟨false,0,0⟩=l.qg[m]'c.1:=by simp[List.getD,c.1]
  rw[e] at c ⊢;rw[uq];by_cases b:l.qg[m].level=j/\l.qg[m].level<f.length
  ·rw[zb b];have:=u m c.1 c.2;rw[b.1] at this;exact⟨zg this,fun _=>this,fun q=>zB ⟨m,c.1,c.2,b.1⟩ q⟩
  ·rw[za b];refine⟨p,?_,s⟩;rintro⟨i,d,v,n,k⟩;by_cases h:i=m
   ·subst h;exact zB ⟨k,by rw[k,w];exact o⟩ b
   ·exact r ⟨i,d,by omega,n,k⟩
 ·rw[za c];refine⟨p,?_,s⟩;rintro⟨i,d,v,n,k⟩;by_cases h:i=m
  ·subst h;exact zB ⟨d,by simpa [List.getD,d] using n⟩ c
  ·exact r ⟨i,d,by omega,n,k⟩
theorem Iw(h:qu l a W){g:Nat->Nat}(d:∀i (b:i<l.qg.length),leveled l.qg[i]=true->row.getD i 0=g l.qg[i].level)(j:Nat)(c:j<3):((∃i,∃b:i<l.qg.length,leveled l.qg[i]=true/\l.qg[i].level=j)->(ul l row).getD j 0=g j)/\((¬∃i,∃b:i<l.qg.length,leveled l.qg[i]=true/\l.qg[i].level=j)->(ul l row).getD j 0=0):=by
 have n:∀j,j<3->((([0,0,0]:zk).getD j 0=g j∨([0,0,0]:zk).getD j 0=0)/\((∃i,∃b:i<l.qg.length,i<0/\leveled l.qg[i]=true/\l.qg[i].level=j)->([0,0,0]:zk).getD j 0=g j)/\((¬∃i,∃b:i<l.qg.length,leveled l.qg[i]=true/\l.qg[i].level=j)->([0,0,0]:zk).getD j 0=0)):=by
  intro j c;have e:([0,0,0]:zk).getD j 0=0:=by
   match j,c with
   |0,_=>rfl
   |1,_=>rfl
   |2,_=>rfl
  exact⟨ze e,fun⟨i,_,q,_⟩=>by omega,fun _=>e⟩
 have p:=ix d rfl n;have f:=ix d (by rw[nK];rfl) p;have r:=ix d (by rw[nK,nK];rfl) f;obtain⟨_,m,o⟩:=r j c;refine⟨fun⟨i,b,s,k⟩=>m ⟨i,b,?_,s,k⟩,o⟩;have:=h.len;have:=h.le3;omega
theorem oB(h:qu l a W){f:zk}:xy l row=some f↔f=ul l row/\∀i (b:i<l.qg.length),jy l.qg[i] (row.getD i 0) (ul l row)=true:=by
 have c:(xr l row (ul l row) 0&&xr l row (ul l row) 1&&xr l row (ul l row) 2)=true↔∀i (b:i<l.qg.length),jy l.qg[i] (row.getD i 0) (ul l row)=true:=by
  have e:∀i,xr l row (ul l row) i=true↔∀b:i<l.qg.length,jy l.qg[i] (row.getD i 0) (ul l row)=true:=by
   intro i;unfold xr;simp only[dX,decide_eq_true_eq];constructor
   ·rintro(q|q) b
    ·omega
    ·simpa [List.getD,b] using q
   ·intro q;by_cases b:i<l.qg.length
    ·exact ze (by simpa [List.getD,b] using q b)
    ·exact zg (by omega)
  simp only[vq,e];constructor
  ·rintro⟨⟨k,m⟩,j⟩ i b;have:=h.len;have:=h.le3;have g:i=0∨i=1∨i=2:=by omega
   rcases g with rfl|rfl|rfl
   ·exact k b
   ·exact m b
   ·exact j b
  ·intro q;exact⟨⟨fun b=>q 0 b,fun b=>q 1 b⟩,fun b=>q 2 b⟩
 unfold xy;by_cases d:(xr l row (ul l row) 0&&xr l row (ul l row) 1&&xr l row (ul l row) 2)=true
 ·rw[zb d];simp only[zr];exact⟨fun q=>⟨q.symm,c.1 d⟩,fun q=>q.1.symm⟩
 ·rw[za d];constructor
  ·intro q;cases q
  ·intro q;exact zB (c.2 q.2) d
theorem N2{l:List Nat}(h:l.Nodup){i j:Nat}(b:i<l.length)(c:j<l.length)(e:l[i]=l[j]):i=j:=by
 have d:=tN.1 h;rcases pe i j with q|q|q
 ·exact zB e (d i j b c q)
 ·exact q
 ·exact zB e.symm (d j i c b q)
theorem Ls(h:qu l a W)(y:List Nat):∃f,xy l (zF l y)=some f/\f.length=3/\f.take (yM l)=yo l y 5/\∀j,yM l<=j->f.getD j 0=0:=by
 have q:∀i (b:i<l.qg.length),(zF l y).getD i 0=QJ l.qg[i] y:=fun i b=>by
  have:=h.len;have:=h.le3;rw[oj l y (by omega)];unfold Pz;simp[List.getD,b]
 have x:∀i (b:i<l.qg.length),leveled l.qg[i]=true->(zF l y).getD i 0=(yo l y 5).getD l.qg[i].level 0:=fun i b c=>by
  have n:=zv b;rw[h.leveled n] at c;obtain⟨r,o⟩:=h.lev _ n c;rw[q i b];unfold QJ;rw[zb (by simp[c,r])];have:=rG o r;unfold yo;simp[List.getD,this]
 have s:=fun j d=>Iw h (row:=zF l y) (g:=fun j=>(yo l y 5).getD j 0) x j d;have p:∀i (b:i<l.qg.length),leveled l.qg[i]=true->l.qg[i].level<yM l:=fun i b c=>by
  have n:=zv b;rw[h.leveled n] at c;obtain⟨r,o⟩:=h.lev _ n c;exact wl o r
 have B:=eo h;have m:∀j,yM l<=j->(ul l (zF l y)).getD j 0=0:=fun j d=>by
  by_cases A:j<3
  ·exact(s j A).2 fun⟨i,b,C,J⟩=>by have:=p i b C;omega
  ·have:=ry l (zF l y);simp[List.getD,List.getElem?_eq_none (show(ul l (zF l y)).length<=j by omega)]
 have k:∀j,j<yM l->(ul l (zF l y)).getD j 0=(yo l y 5).getD j 0:=fun j d=>by
  refine(s j (by omega)).1 ?_;rw[dI] at d;have H:=zv d;obtain⟨I,z⟩:=(pm l 5 _).1 H;obtain⟨t,v,w,G⟩:=(hG l _).1 z;obtain⟨i,b,rfl⟩:=vG v;refine⟨i,b,by rw[h.leveled v];exact w,?_⟩;obtain⟨D,E⟩:=h.lev _ v w;have:=rG E D;rw[G] at this;obtain⟨F,e⟩:=jA.1 this;exact N2 (List.nodup_range.filter _:(y7 l 5).Nodup) F d e
 refine⟨ul l (zF l y),(oB h).2 ⟨rfl,fun i b=>?_⟩,ry _ _,?_,m⟩
 ·unfold jy;have n:=zv b;cases c:leveled l.qg[i] with
  |true=>
   rw[zb rfl,k _ (p i b c),x i b c];simp
  |false=>
   rw[za (by simp),q i b];rw[h.leveled n] at c;unfold QJ;rw[za (by simp[c])];simp
 ·refine gS (by rw[vU,ry,mL,←dI];omega) fun j r o=>?_;have d:j<yM l:=by rw[mL,←dI] at o;exact o
  have:=k j d;have u:j<(ul l (zF l y)).length:=by rw[ry];omega
  simp only[List.getD,yr u,yr o,ux] at this;rw[List.getElem_take];exact this
theorem DJ(h:qu l a W){f:zk}(q:PG a row)(r:xy l row=some f)(y:List Nat)(p:f.take (yM l)=yo l y 5):row=zF l y:=by
 obtain⟨rfl,n⟩:=(oB h).1 r;refine BL q (tF h y) fun i t s=>?_;have c:i<l.qg.length:=by rw[h.len];exact t
 have b:=zv c;have d:=n i c;rw[oj l y s];unfold Pz;rw[zb c,show l.qg.getD i ⟨false,0,0⟩=l.qg[i] by simp[List.getD,c]];unfold jy at d;unfold QJ;cases g:leveled l.qg[i] with
 |true=>
  rw[g,zb rfl] at d;rw[h.leveled b] at g;obtain⟨j,o⟩:=h.lev _ b g;rw[zb (by simp[g,j])];have k:=wl o j;have m:=rG o j;have e:(ul l row).getD l.qg[i].level 0=((ul l row).take (yM l)).getD l.qg[i].level 0:=by
   simp[List.getD,k]
  rw[e,p] at d;unfold yo at d;simp only[List.getD,li,m,jj,ux,beq_iff_eq] at d;exact d.symm
 |false=>
  rw[g,za (by simp)] at d;rw[h.leveled b] at g;rw[za (by simp[g])];exact(by simpa using d:l.qg[i].num=row.getD i 0).symm
end
section
variable {W:Nat}{row:zk}{l:zt}{T:zi}
def PU(W:Nat)(row:zk):Prop:=∀v∈row,v<W
theorem Km(h:PU W row)(b:0<W)(i:Nat):row.getD i 0<W:=by
 by_cases a:i<row.length
 ·rw[show row.getD i 0=row[i] by simp[List.getD,a]];exact h _ (zv a)
 ·rw[show row.getD i 0=0 by simp[List.getD,a]];exact b
theorem eA{f:zk}(c:0<W)(d:PU W row)(a:PU W f)(i:Nat):PU W (qD l row f i):=by
 unfold qD;split
 ·intro v b;rcases nY b with q|q
  ·exact a v q
  ·rw[q];exact Km d c i
 ·exact a
theorem Nt{f:zk}(c:0<W)(b:PU W row)(a:xy l row=some f):f.length=3/\PU W f:=by
 unfold xy at a;split at a
 ·simp only[zr] at a;rw[←a];refine⟨ry l row,?_⟩;unfold ul;have e:PU W [0,0,0]:=by intro v d;simp at d;omega
  exact eA c b (eA c b (eA c b e 0) 1) 2
 ·cases a
theorem Af(T:zi)(row:zk):fK T row=true↔PU T.qf row:=by simp[fK,PU]
theorem iN:∀(rs:List zk) (T:zi),vo T->(∀r∈rs,r.length=3/\PU T.qf r)->T.count+rs.length<=9000000->∃a,xw rs T=some a/\vo a/\a.qf=T.qf/\a.ql=T.ql/\a.count<=T.count+rs.length/\∀k,k.length=T.ql->((xZ a k).isSome=true↔(xZ T k).isSome=true∨∃r∈rs,r.take T.ql=k)
 |[],T,h,_,_=>⟨T,rfl,h,rfl,rfl,by simp,fun k _=>by simp⟩
 |r::rs,T,h,f,p=>by
  simp only[xd] at p;obtain⟨A,s⟩:=f r (by simp);obtain⟨B,j,d,E,u,C,y⟩:=h.add r 0 A ((Af T r).2 s);have g:(addP T r 0).1.count<=T.count+1:=by
   cases i:(addP T r 0).2 with
   |false=>rw[u i];omega
   |true=>rw[C i];exact zf _
  obtain⟨a,w,n,z,v,D,t⟩:=iN rs (addP T r 0).1 B (fun x o=>by rw[j];exact f x (by simp[o])) (by omega);unfold xw;rw[zb (h.okT (by omega))];refine⟨a,w,n,by rw[z,j],by rw[v,d],by simp only[xd];omega,fun k m=>?_⟩;rw[t k (by rw[d];exact m),y k m,d];by_cases e:k=r.take T.ql
  ·subst e;simp
  ·rw[za e];constructor
   ·rintro(q|⟨x,b,c⟩)
    ·exact zg q
    ·exact ze ⟨x,by simp[b],c⟩
   ·rintro(q|⟨x,b,c⟩)
    ·exact zg q
    ·rcases zu.1 b with rfl|b
     ·exact zB c.symm e
     ·exact ze ⟨x,b,c⟩
structure uM (T:zi) (l:zt) (W:Nat) (P:zk->Prop):Prop where
 ok:vo T
 qf:T.qf=W
 ql:T.ql=yV (yM l)
 sem:∀k,k.length=T.ql->((xZ T k).isSome=true↔∃row f,P row/\xy l row=some f/\f.take T.ql=k)
theorem uM.congr{P Q:zk->Prop}(h:uM T l W P)(e:∀x,P x↔Q x):uM T l W Q:=
 ⟨h.ok,h.qf,h.ql,fun k a=>by rw[h.sem k a];exact⟨fun⟨r,f,q⟩=>⟨r,f,(e r).1 q.1,q.2⟩,fun⟨r,f,q⟩=>⟨r,f,(e r).2 q.1,q.2⟩⟩⟩
theorem uM.new(l:zt)(w W:Nat)(b:W=zJ w):uM (yR w (yM l)) l W (fun _=>False):=by
 refine⟨vo.new _ _,by rw[El,b],pq _ _,fun k a=>?_⟩;constructor
 ·intro q;rw[rY _ _ k (by rintro rfl;have:=(fO (yM l)).1;rw[pq] at a;simp at a;omega)] at q;cases q
 ·rintro⟨_,_,q,_⟩;exact q.elim
theorem uM.adds{P:zk->Prop}(h:uM T l W P)(t:0<W)(a:List zk)(hs:∀r∈a,PU W r)(w:T.count+a.length<=9000000):∃d,xw (a.filterMap (xy l)) T=some d/\uM d l W (fun x=>P x∨x∈a)/\d.count<=T.count+a.length:=by
 have n:(a.filterMap (xy l)).length<=a.length:=p4 _ _;obtain⟨d,q,p,s,j,v,u⟩:=iN (a.filterMap (xy l)) T h.ok (fun r o=>by
  obtain⟨x,g,i⟩:=lN.1 o;rw[h.qf];exact Nt t (hs x g) i) (by omega)
 refine⟨d,q,⟨p,by rw[s,h.qf],by rw[j,h.ql],fun k m=>?_⟩,by omega⟩;rw[j] at m;rw[u k m,h.sem k m,j];constructor
 ·rintro(⟨r,f,b,c,e⟩|⟨f,b,c⟩)
  ·exact⟨r,f,zg b,c,e⟩
  ·obtain⟨x,g,i⟩:=lN.1 b;exact⟨x,f,ze g,i,c⟩
 ·rintro⟨r,f,b|b,c,e⟩
  ·exact zg ⟨r,f,b,c,e⟩
  ·exact ze ⟨f,lN.2 ⟨r,b,c⟩,e⟩
theorem oW{k:zk}{d:Nat}(h:k.length=d)(a:d<=3):(QA k d).length=3:=by simp[QA,h];omega
theorem rc{k:zk}{d:Nat}(h:k.length=d):(QA k d).take d=k:=by simp[QA,←h]
theorem oL{k:zk}{d:Nat}(b:0<W)(h:PU W k):PU W (QA k d):=by
 intro v a;unfold QA at a;rcases zX.1 a with q|q
 ·exact h v q
 ·have:=gZ q;simp at this;omega
theorem uM.join{U:zi}{P Q:zk->Prop}(h:uM T l W P)(k:uM U l W Q)(z:0<W)(E:T.count+U.count<=9000000):∃c,xw ((PY U).map fun x=>QA x U.ql) T=some c/\uM c l W (fun x=>P x∨Q x)/\c.count<=T.count+U.count:=by
 have e:U.ql=T.ql:=by rw[h.ql,k.ql]
 have t:T.ql<=3:=by rw[h.ql];exact(fO _).2
 obtain⟨c,B,w,q,j,A,D⟩:=iN ((PY U).map fun x=>QA x U.ql) T h.ok (fun r n=>by
  obtain⟨x,i,rfl⟩:=z9.1 n;obtain⟨a,b⟩:=(qV U x).1 i;refine⟨oW a (by omega),?_⟩;rw[h.qf];refine oL z ?_;intro v o;have:=sB x 0 b v o;rw[k.qf] at this;exact this) (by simp[k.ok.cnt];omega)
 refine⟨c,B,⟨w,by rw[q,h.qf],by rw[j,h.ql],fun y g=>?_⟩,by simpa [k.ok.cnt] using A⟩;rw[j] at g;rw[D y g,h.sem y g,j];constructor
 ·rintro(⟨r,f,a,b,d⟩|⟨r,a,b⟩)
  ·exact⟨r,f,zg a,b,d⟩
  ·obtain⟨x,i,rfl⟩:=z9.1 a;obtain⟨m,p⟩:=(qV U x).1 i;rw[←e,rc m] at b;subst b;obtain⟨r,f,u,C,s⟩:=(k.sem x m).1 p;exact⟨r,f,ze u,C,by rw[←e];exact s⟩
 ·rintro⟨r,f,a|a,b,d⟩
  ·exact zg ⟨r,f,a,b,d⟩
  ·refine ze ⟨QA y U.ql,z9.2 ⟨y,(qV U y).2 ⟨by omega,(k.sem y (by omega)).2 ⟨r,f,a,b,by rw[e];exact d⟩⟩,rfl⟩,?_⟩;rw[←e,rc (by omega)]
theorem uM.sat{a E:Nat}{P:zk->Prop}(h:uM T l W P)(j:qu l a E)(u:∀x,P x->PG a x)(y:List Nat):tm T l y↔P (zF l y):=by
 obtain⟨f,v,w,A,G⟩:=Ls j y;have n:=eo j;by_cases b:yM l=0
 ·have e:T.ql=1:=by rw[h.ql,b];rfl
  have F:yo l y 5=[]:=lG.1 (by rw[mL,←dI];exact b);constructor
  ·intro t;have o:=t.1 b;rw[←h.ok.cnt] at o;obtain⟨k,D⟩:=List.exists_mem_of_length_pos (Nat.pos_of_ne_zero o);obtain⟨B,C⟩:=(qV T k).1 D;obtain⟨r,g,d,p,m⟩:=(h.sem k B).1 C;have:=DJ j (u r d) p y (by rw[b,F];rfl);rw[←this];exact d
  ·intro c;refine⟨fun _ o=>?_,fun q=>zB b q⟩;have:(xZ T (f.take T.ql)).isSome=true:=(h.sem _ (by rw[vU,w,e];rfl)).2 ⟨_,f,c,v,rfl⟩;have z:=(qV T _).2 ⟨by rw[vU,w,e];rfl,this⟩;have:=ny z;rw[h.ok.cnt] at this;omega
 ·have s:T.ql=yM l:=by rw[h.ql,rD b n]
  have i:(yo l y 5).length=T.ql:=by rw[mL,←dI,s]
  constructor
  ·intro t;obtain⟨r,g,d,p,m⟩:=(h.sem _ i).1 (t.2 b);rw[s] at m;have:=DJ j (u r d) p y m;rw[←this];exact d
  ·intro c;exact⟨fun q=>zB q b,fun _=>(h.sem _ i).2 ⟨_,f,c,v,by rw[s];exact A⟩⟩
structure m7 (V:y6) (l:zt) (W:Nat) (P0 P1:zk->Prop) (Pf:zk->Prop) (c:Nat):Prop where
 lit:V.lit=l
 before:uM V.before l W P0
 qo:uM V.qo l W Pf
 all:uM V.all l W P1
 few:V.before.count+V.qo.count<=c/\V.all.count<=c
theorem Dp{V:y6}{w:Nat}{m j i:zk->Prop}{c:Nat}(h:m7 V l W m j i c)(n:W=zJ w)(d:List zk)(hs:∀r∈d,PU W r)(C:c+d.length<=1048576)(e:Nat)(t:3*(W+1)<=e):∃k,gL e w V d=some k/\m7 k l W (fun x=>m x∨i x) (fun x=>j x∨x∈d) (fun x=>x∈d) (c+d.length):=by
 have g:0<W:=by rw[n];unfold zJ;split<;>omega
 have o:=h.qo.ok.rowsG e (by rw[h.qo.qf];exact t) (by have:=h.few.1;omega);obtain⟨b,u,q,E⟩:=h.before.join h.qo g (by have:=h.few.1;omega);obtain⟨f,p,y,z⟩:=(uM.new l w W n).adds g d hs (by simp[yR,yt];omega);obtain⟨a,v,s,B⟩:=h.all.adds g d hs (by have:=h.few.2;omega);refine⟨{V with before:=b,qo:=f,all:=a},?_,h.lit,q,y.congr (fun x=>by simp),s,?_⟩
 ·unfold gL;rw[o,h.lit];simp only[u,p,v]
 ·have F:=h.few.1;have D:=h.few.2;have A:(yR w (yM l)).count=0:=rfl;simp only;omega
end
section
open Classical
abbrev DB:=Nat->zk->Option Nat
noncomputable def zyf(ar:List Nat)(R:zw):DB:=fun p row=>if p<ar.length/\PG (ar.getD p 0) row then uk (R.rows.getD p zi.zero) row else none
structure qB (ar:List Nat) (W:Nat) (R:zw):Prop where
 len:R.rows.length=ar.length
 tries:∀p (hp:p<R.rows.length),vo R.rows[p]/\R.rows[p].qf=W/\R.rows[p].ql=yV (ar.getD p 0)/\∀k∈PY R.rows[p],PG (ar.getD p 0) (QA k R.rows[p].ql)
 cnt:R.count=(R.rows.map (·.count)).sum
theorem FF(l:List zi):∀(p:Nat) (T:zi) (b:p<l.length),((l.set p T).map (·.count)).sum+l[p].count=(l.map (·.count)).sum+T.count:=by
 induction l with
 |nil=>intro p T b;simp at b
 |cons a l c=>
  intro p T b;cases p with
  |zero=>simp;omega
  |succ p=>
   have:=c p T (by simpa using b);simp at this ⊢;omega
theorem iU(l:List zi):∀(p:Nat) (b:p<l.length),l[p].count<=(l.map (·.count)).sum:=by
 induction l with
 |nil=>intro p b;simp at b
 |cons a l c=>
  intro p b;cases p with
  |zero=>simp
  |succ p=>
   have:=c p (by simpa using b);simp at this ⊢;omega
theorem Jr{a:Nat}(f:a<=3){x y:zk}(b:PG a x)(c:PG a y)(e:x.take (yV a)=y.take (yV a)):x=y:=by
 refine BL b c fun i g h=>?_;have d:i<yV a:=by rw[rD (by omega) f];exact g
 have:=congrArg (fun l=>l.getD i 0) e;simpa [List.getD,List.getElem?_take,d] using this
theorem A7{a:Nat}(k:a<=3){x:zk}(d:PG a x):QA (x.take (yV a)) (yV a)=x:=by
 have g:a<=yV a:=by
  by_cases h:a=0
  ·omega
  ·rw[rD h k];exact zf _
 show x.take (yV a)++([0,0,0]:zk).drop (yV a)=x;have b:=d.1;refine gS (by simp[b];omega) fun i o f=>?_;have n:=fun i (m:yV a<=i)=>d.2 i (by omega);by_cases m:i<yV a
 ·rw[uQ (by simp[b];omega)];simp
 ·rw[mw (by simp;omega)];have l:x[i]=0:=by have:=n i (by omega);simpa [List.getD,f] using this
  rw[l];simp only[List.getElem_drop];have:∀j (e:j<([0,0,0]:List Nat).length),([0,0,0]:List Nat)[j]=0:=by
   intro j e;have c:j=0∨j=1∨j=2:=by simp at e;omega
   rcases c with rfl|rfl|rfl<;>rfl
  exact this _ _
structure Qr (ar:List Nat) (W k:Nat) (D0:DB) (c0:List Nat) (R:zw):Prop where
 inv:qB ar W R
 qw:R.qw=k
 flen:R.qo.length=ar.length
 qo:∀p (hp:p<R.qo.length),R.qo[p].Nodup/\∀row∈R.qo[p],PG (ar.getD p 0) row/\PU W row/\D0 p row=none
 abs:∀p row,zyf ar R p row=match D0 p row with
  |some m=>some m
  |none=>if row∈R.qo.getD p [] then some k else none
 cnts:∀p (hp:p<R.rows.length),R.rows[p].count=c0.getD p 0+(R.qo.getD p []).length
theorem P5{α:Type}{l:List α}{i:Nat}(d:α)(h:i<l.length):l.getD i d=l[i]:=by simp[List.getD,h]
theorem wZ{α:Type}(l:List α)(i j:Nat)(v d:α):(l.set i v).getD j d=if i=j/\i<l.length then v else l.getD j d:=by
 simp only[gu,p3];by_cases h:i=j
 ·subst h;by_cases a:i<l.length
  ·simp[a]
  ·simp[a]
 ·simp[h]
theorem Qr.add{f:List Nat}{W k:Nat}{D0:DB}{c0:List Nat}{R:zw}(h:Qr f W k D0 c0 R)(h3:∀a∈f,a<=3){p:Nat}(G:p<f.length){row:zk}(v:PG (f.getD p 0) row)(hs:PU W row){mr:Nat}(hc:R.count<=mr)(hm:mr<=1048576):
  ∃C ok,jr mr R p row=some (C,ok)/\Qr f W k D0 c0 C/\C.jf=R.jf/\(zyf f C p row).isSome=true/\(∀q x,x∈R.qo.getD q []->x∈C.qo.getD q [])/\(∀q x,x∈C.qo.getD q []->x∈R.qo.getD q []∨q=p/\x=row)/\(ok=true->C.count<=mr)/\(ok=false->C.count>mr):=by
 have g:p<R.rows.length:=by rw[h.inv.len];exact G
 have w:p<R.qo.length:=by rw[h.flen];exact G
 obtain⟨t1,t2,M,t4⟩:=h.inv.tries p g;have J:f.getD p 0<=3:=by rw[P5 _ G];exact h3 _ (zv G)
 have V:=iU R.rows p g;rw[←h.inv.cnt] at V;have S:=h.cnts p g;have L:=(Af R.rows[p] row).2 (by rw[t2];exact hs);obtain⟨P,X,H,N,Z,a6,O⟩:=t1.add row R.qw v.1 L;have ab:(row.take R.rows[p].ql).length=R.rows[p].ql:=by
  rw[vU,v.1,M];have:=(fO (f.getD p 0)).2;omega
 have I:=fun x (i:PG (f.getD p 0) x)=>t1.mark x i.1;have u:R.rows.getD p zi.zero=R.rows[p]:=P5 _ g;have n:zyf f R p row=xZ R.rows[p] (row.take R.rows[p].ql):=by
  unfold zyf;rw[zb ⟨G,v⟩,u,I row v]
 unfold jr;rw[zb ⟨g,w,by rw[u];exact t1.okT (by omega),by omega,by omega⟩,u];cases hA:addP R.rows[p] row R.qw with
 |mk T b=>
  rw[hA] at P X H N Z a6 O;simp only at P X H N Z a6 O;cases b with
  |false=>
   have hT:=Z rfl;subst hT;have D:=rB g;refine⟨{R with rows:=R.rows.set p R.rows[p]},true,rfl,?_,rfl,?_,fun q x i=>i,fun q x i=>zg i,fun _=>hc,fun q=>by cases q⟩
   ·rw[D];exact h
   ·rw[D];show(zyf f R p row).isSome=true;rw[n];rw[←Option.not_isNone,←N];rfl
  |true=>
   have l:xZ R.rows[p] (row.take R.rows[p].ql)=none:=by
    cases j:xZ R.rows[p] (row.take R.rows[p].ql) with
    |none=>rfl
    |some m=>rw[j] at N;cases N
   have A:D0 p row=none/\row∉R.qo.getD p []:=by
    have:=h.abs p row;rw[n,l] at this;cases j:D0 p row with
    |some m=>rw[j] at this;cases this
    |none=>
     rw[j] at this;refine⟨rfl,fun U=>?_⟩;simp only at this;rw[zb U] at this;cases this
   have K:R.qo.getD p []=R.qo[p]:=P5 _ w;have aa:=FF R.rows p T g;have E:=a6 rfl;have Y:(R.rows.set p T).length=R.rows.length:=by simp
   have hinv:qB f W {R with rows:=R.rows.set p T,qo:=R.qo.set p (R.qo.getD p []++[row]),count:=R.count+1}:=by
    refine⟨by simp[h.inv.len],fun q j=>?_,?_⟩
    ·simp only[l3] at j;simp only[mJ];by_cases e:p=q
     ·subst e;simp only[if_true];refine⟨P,by rw[X,t2],by rw[H,M],fun x i=>?_⟩;obtain⟨x1,Q⟩:=(qV T x).1 i;rw[H] at x1 ⊢;rw[O x x1] at Q;by_cases F:x=row.take R.rows[p].ql
      ·rw[F,M,A7 J v];exact v
      ·rw[za F] at Q;exact t4 x ((qV R.rows[p] x).2 ⟨x1,Q⟩)
     ·simp only[e,if_false];exact h.inv.tries q j
    ·show R.count+1=((R.rows.set p T).map (·.count)).sum;rw[h.inv.cnt];omega
   have o:∀q,(R.rows.set p T).getD q zi.zero=if p=q then T else R.rows.getD q zi.zero:=fun q=>by
    rw[wZ];by_cases e:p=q
    ·rw[zb ⟨e,g⟩,zb e]
    ·rw[za (fun x=>e x.1),za e]
   have c:∀q,(R.qo.set p (R.qo.getD p []++[row])).getD q []=if p=q then R.qo.getD p []++[row] else R.qo.getD q []:=fun q=>by
    rw[wZ];by_cases e:p=q
    ·rw[zb ⟨e,w⟩,zb e]
    ·rw[za (fun x=>e x.1),za e]
   have t:∀q x,zyf f {R with rows:=R.rows.set p T,qo:=R.qo.set p (R.qo.getD p []++[row]),count:=R.count+1} q x=if q=p/\x=row then some k else zyf f R q x:=by
    intro q x;unfold zyf;simp only[o];by_cases e:p=q
    ·subst e;simp only[if_true,true_and];by_cases d:p<f.length/\PG (f.getD p 0) x
     ·rw[zb d,zb d,u,I x d.2,P.mark x d.2.1,H,O _ (by rw[vU,d.2.1,M];have:=(fO (f.getD p 0)).2;omega)];by_cases F:x=row
      ·subst F;rw[zb rfl,zb rfl,l,h.qw];rfl
      ·rw[za F,za];intro B;rw[M] at B;exact F (Jr J d.2 v B)
     ·rw[za d,za d,za];rintro rfl;exact d ⟨G,v⟩
    ·simp only[e,if_false];rw[za (fun z:q=p/\x=row=>e z.1.symm)]
   refine⟨{R with rows:=R.rows.set p T,qo:=R.qo.set p (R.qo.getD p []++[row]),count:=R.count+1},decide (R.count+1<=mr),rfl,⟨hinv,h.qw,by simp[h.flen],fun q j=>?_,fun q x=>?_,fun q j=>?_⟩,rfl,?_,fun q x i=>?_,fun q x i=>?_,fun q=>by simpa using q,fun q=>by simpa using q⟩
   ·have s:q<R.qo.length:=by simpa using j
    have e:(R.qo.set p (R.qo.getD p []++[row]))[q]=(R.qo.set p (R.qo.getD p []++[row])).getD q []:=(P5 _ j).symm;show((R.qo.set p (R.qo.getD p []++[row]))[q]).Nodup/\_;rw[e,c q];by_cases B:p=q
    ·subst B;rw[zb rfl,K];obtain⟨n1,n2⟩:=h.qo p w;rw[K] at A;refine⟨?_,fun x i=>?_⟩
     ·rw[n8];exact⟨n1,by simp,fun x i y hy=>by simp at hy;subst hy;rintro rfl;exact A.2 i⟩
     ·rcases zX.1 i with q|q
      ·exact n2 x q
      ·simp at q;subst q;exact⟨v,hs,A.1⟩
    ·rw[za B,P5 _ s];exact h.qo q s
   ·rw[t];show _=match D0 q x with|some m=>some m|none=>if x∈(R.qo.set p (R.qo.getD p []++[row])).getD q [] then some k else none
    rw[c q,h.abs q x];by_cases e:q=p/\x=row
    ·obtain⟨rfl,rfl⟩:=e;rw[zb ⟨rfl,rfl⟩,A.1];simp
    ·rw[za e];cases D0 q x with
     |some m=>rfl
     |none=>
      simp only;by_cases B:p=q
      ·subst B;rw[zb rfl];have:x≠row:=fun e3=>e ⟨rfl,e3⟩;simp[this]
      ·rw[za B]
   ·have s:q<R.rows.length:=by simpa using j
    show(R.rows.set p T)[q].count=c0.getD q 0+((R.qo.set p (R.qo.getD p []++[row])).getD q []).length;rw[c q,←P5 zi.zero j,o q];by_cases e:p=q
    ·subst e;rw[zb rfl,zb rfl,E,S];simp;omega
    ·rw[za e,za e,P5 _ s];exact h.cnts q s
   ·rw[t,zb ⟨rfl,rfl⟩];rfl
   ·show x∈(R.qo.set p (R.qo.getD p []++[row])).getD q [];rw[c q];by_cases e:p=q
    ·subst e;rw[zb rfl];exact List.mem_append_left _ i
    ·rw[za e];exact i
   ·have r:x∈(R.qo.set p (R.qo.getD p []++[row])).getD q []:=i;rw[c q] at r;by_cases e:p=q
    ·subst e;rw[zb rfl] at r;rcases zX.1 r with q|q
     ·exact zg q
     ·simp at q;exact ze ⟨rfl,q⟩
    ·rw[za e] at r;exact zg r
end
section
open Classical
variable {Ts Ns:List zi}{W:Nat}
theorem Oy{r:zq}(e:gK r)(d:gQ r Ts W){y:List Nat}(g:qT r Ts Ns y){p:Nat}(n:p<r.vars):y.getD p 0<W:=by
 obtain⟨l,k,h⟩:=e.safe p n;obtain⟨i,c,rfl⟩:=vG k;have b:i<Ts.length:=by rw[d.len];exact c
 obtain⟨_,_,o⟩:=d.ok i _ _ (yr c) (yr b);have f:=e.vars;have a:=(pm _ 5 p).2 ⟨by omega,h⟩;have j:yM r.qc[i]≠0:=by
  rw[dI];intro q;rw[lG.1 q] at a;cases a
 have m:=(g.1 i _ _ (yr c) (yr b)).2 j;have:=sB _ 0 m (y.getD p 0) (z9.2 ⟨p,a,rfl⟩);omega
theorem oS{l:zt}{a:Nat}(h:qu l a W)(g:0<W){y:List Nat}(f:∀p,zH l p=true->y.getD p 0<W):PU W (zF l y):=by
 have j:∀i,Pz l y i<W:=by
  intro i;unfold Pz;split
  ·rename_i e;rw[show l.qg.getD i ⟨false,0,0⟩=l.qg[i] by simp[List.getD,e]];have c:=zv e;unfold QJ;split
   ·rename_i b;simp only[vq,decide_eq_true_eq] at b;exact f _ ((hG l _).2 ⟨_,c,b.1,rfl⟩)
   ·rename_i b;cases d:l.qg[i].var with
    |true=>
     have:=(h.lev _ c d).1;simp[d,this] at b
    |false=>exact h.con _ c d
  ·exact g
 intro v b;simp only[zF,zu,lE,or_false] at b;rcases b with rfl|rfl|rfl<;>exact j _
theorem mH.mono{r:zq}{E i:zk->Prop}{J:zy}{M:Nat}(h:mH r Ts Ns W E J M)(g:∀x,E x->i x):mH r Ts Ns W i J M:=by
 rcases h with⟨c,a,e⟩|⟨k,d,f,c,a,e,j,m,l⟩
 ·exact zg ⟨c,a,fun y b=>g _ (e y b)⟩
 ·exact ze ⟨k,d,f,c,a,e,j,fun y b=>(m y b).imp (g _) id,l⟩
theorem Qr.jf{a:List Nat}{W k:Nat}{D0:DB}{c0:List Nat}{R:zw}(h:Qr a W k D0 c0 R)(m:Int):Qr a W k D0 c0 {R with jf:=m}:=
 ⟨⟨h.inv.len,h.inv.tries,h.inv.cnt⟩,h.qw,h.flen,h.qo,h.abs,h.cnts⟩
theorem Qr.grow{b:List Nat}{k:Nat}{D0:DB}{c0:List Nat}{R R':zw}(h:Qr b W k D0 c0 R)(e:Qr b W k D0 c0 R')(d:∀q x,x∈R.qo.getD q []->x∈R'.qo.getD q []){p:Nat}{x:zk}(a:(zyf b R p x).isSome=true):(zyf b R' p x).isSome=true:=by
 rw[h.abs] at a;rw[e.abs];cases f:D0 p x with
 |some m=>rfl
 |none=>
  rw[f] at a;simp only at a ⊢;by_cases c:x∈R.qo.getD p []
  ·rw[zb (d p x c)];rfl
  ·rw[za c] at a;cases a
structure o7 (ar:List Nat) (W k:Nat) (D0:DB) (c0:List Nat) (p mr:Nat) (sol:zk->Prop) (R R':zw) (ok:Bool):Prop where
 mid:Qr ar W k D0 c0 R'
 mono:∀q x,x∈R.qo.getD q []->x∈R'.qo.getD q []
 sound:∀q x,x∈R'.qo.getD q []->x∈R.qo.getD q []∨q=p/\sol x
 yes:ok=true->R'.count<=mr/\∀x,sol x->(zyf ar R' p x).isSome=true
 no:ok=false->R'.count>mr
theorem Ij{d:List Nat}{k:Nat}{D0:DB}{c0:List Nat}{r:zq}(g:gK r)(E:gQ r Ts W)(I:∀a∈d,a<=3)(U:0<W)(hp:r.head.pred<d.length)(w:qu r.head (d.getD r.head.pred 0) W)(A:Nat)(hA:W*(r.qc.length+1)+r.qc.length<=A){mr:Nat}(i:mr<=1048576):
  ∀(n:Nat) (R:zw) (J:zy) (M:Nat),Qr d W k D0 c0 R->R.count<=mr->mH r Ts Ns W (fun x=>(zyf d R r.head.pred x).isSome=true) J M->M+A+2<n->∃B ok,vj mr r.head.pred n R J=some (B,ok)/\o7 d W k D0 c0 r.head.pred mr (fun x=>∃y,qT r Ts Ns y/\x=zF r.head y) R B ok:=by
 intro n;induction n with
 |zero=>intro R J M _ _ _ h;omega
 |succ n T=>
  intro R J M h D N hn;obtain⟨f,b,S,H,K⟩:=He g E _ A hA n J M N (by omega);unfold vj;rw[S];cases b with
  |false=>
   refine⟨_,true,rfl,h.jf _,fun q x c=>c,fun q x c=>zg c,fun _=>⟨D,?_⟩,fun q=>by cases q⟩;rintro x ⟨y,G,rfl⟩;exact H rfl y G
  |true=>
   obtain⟨m,P,O,m3,L⟩:=K rfl;simp only;rw[P];have o:=oS w U fun p s=>Oy g E m (g.head p s);obtain⟨C,ok,a1,u,_,X,v,F,Y,Z⟩:=h.add I hp (tF w f.ja) o D i;rw[a1];cases ok with
   |false=>
    refine⟨C,false,rfl,u,v,fun q x c=>?_,(fun q=>by cases q),Z⟩;rcases F q x c with z|⟨j,t⟩
    ·exact zg z
    ·exact ze ⟨j,f.ja,m,t⟩
   |true=>
    simp only;obtain⟨Q,l,V,e⟩:=T C f O u (Y rfl) (L.mono fun x c=>by
     rcases c with q|q
     ·exact h.grow u v q
     ·rw[q];exact X) (by omega)
    refine⟨Q,l,V,e.mid,fun q x c=>e.mono q x (v q x c),fun q x c=>?_,e.yes,e.no⟩;rcases e.sound q x c with z|z
    ·rcases F q x z with z|⟨j,t⟩
     ·exact zg z
     ·exact ze ⟨j,f.ja,m,t⟩
    ·exact ze z
end
section
open Classical
variable {r:zq}{ar c0:List Nat}{W wd mr:Nat}
def P9(D:DB)(p:Nat)(x:zk):Prop:=(D p x).isSome=true
def Rf(r:zq)(D:DB)(x:zk):Prop:=∃y,(∀l∈r.qc,P9 D l.pred (zF l y))/\(∀l∈r.qp,D l.pred (zF l y)=none)/\x=zF r.head y
structure n5 (r:zq) (ar:List Nat) (W:Nat):Prop where
 fine:gK r
 hpred:r.head.pred<ar.length
 head:qu r.head (ar.getD r.head.pred 0) W
 qc:∀l∈r.qc,l.pred<ar.length/\qu l (ar.getD l.pred 0) W
 qp:∀l∈r.qp,l.pred<ar.length/\qu l (ar.getD l.pred 0) W
def pK(ar:List Nat)(D:DB):Prop:=∀p x,P9 D p x->p<ar.length/\PG (ar.getD p 0) x
theorem CO(ar:List Nat)(R:zw):pK ar (zyf ar R):=by
 intro p x h;unfold P9 zyf at h;split at h
 ·assumption
 ·cases h
theorem E1(j:n5 r ar W){R:zw}(u:qB ar W R){g:List zi}{P:Nat->zk->Prop}(d:g.length=r.qc.length)(p:∀(i:Nat) (l:zt) (T:zi),r.qc[i]?=some l->g[i]?=some T->uM T l W (P i)/\∀x,P i x->PG (ar.getD l.pred 0) x)(y:List Nat):
  qT r g (qN wd R r) y↔(∀(i:Nat) (l:zt),r.qc[i]?=some l->P i (zF l y))/\∀l∈r.qp,zyf ar R l.pred (zF l y)=none:=by
 have b:∀l∈r.qp,uk (fR wd R l.pred) (zF l y)=zyf ar R l.pred (zF l y):=by
  intro l a;obtain⟨t,s⟩:=j.qp l a;unfold fR zyf;rw[za (by rw[u.len];omega),zb ⟨t,tF s y⟩]
 unfold qT qN;constructor
 ·rintro⟨k,h⟩;refine⟨fun i l a=>?_,fun l a=>?_⟩
  ·have f:i<g.length:=by rw[d];exact(jA.1 a).1
   obtain⟨o,n⟩:=p i l _ a (yr f);exact(o.sat (j.qc l (fe a)).2 n y).1 (k i l _ a (yr f))
  ·rw[←b l a];obtain⟨i,c,rfl⟩:=vG a;exact h (r.qp[i],fR wd R r.qp[i].pred) (gE.2 ⟨i,by simp[c],by simp⟩)
 ·rintro⟨k,h⟩;refine⟨fun i l T a m=>?_,fun x q=>?_⟩
  ·obtain⟨o,n⟩:=p i l T a m;exact(o.sat (j.qc l (fe a)).2 n y).2 (k i l a)
  ·obtain⟨i,c,rfl⟩:=gE.1 q;simp only[List.length_zip,uJ] at c;have e:i<r.qp.length:=by omega
   simp only[List.getElem_zip,vm];rw[b _ (zv e)];exact h _ (zv e)
structure eP (ar:List Nat) (W:Nat) (w:zZ) (r:zq) (D0 D:DB) (c:List Nat):Prop where
 rule:w.rule=r
 len:w.qm.length=r.qc.length
 qm:∀(i:Nat) (l:zt) (V:y6),r.qc[i]?=some l->w.qm[i]?=some V->m7 V l W (P9 D0 l.pred) (P9 D l.pred) (fun x=>P9 D l.pred x/\¬P9 D0 l.pred x) (c.getD l.pred 0)
def fQ(W:Nat)(r:zq):Nat:=vr W r.vars 0 [] 0+(W*(r.qc.length+1)+r.qc.length)+3
theorem Ar{k:Nat}{D:DB}(f:n5 r ar W)(E:∀a∈ar,a<=3)(H:0<W)(s:mr<=1048576){R:zw}(n:Qr ar W k D c0 R)(F:R.count<=mr){h:List zi}{P:Nat->zk->Prop}(c:h.length=r.qc.length)(t:∀(i:Nat) (l:zt) (T:zi),r.qc[i]?=some l->h[i]?=some T->uM T l W (P i)/\∀x,P i x->PG (ar.getD l.pred 0) x)(B:∀l∈r.qp,∀x,zyf ar R l.pred x=D l.pred x)(b:Nat)(o:fQ W r<=b):
  ∃j ok,vj mr r.head.pred b R (xv r h (qN wd R r))=some (j,ok)/\o7 ar W k D c0 r.head.pred mr (fun x=>∃y,((∀(i:Nat) (l:zt),r.qc[i]?=some l->P i (zF l y))/\∀l∈r.qp,D l.pred (zF l y)=none)/\x=zF r.head y) R j ok:=by
 have C:gQ r h W:=⟨c,fun i l T e p=>by obtain⟨v,_⟩:=t i l T e p;exact⟨v.ok,v.ql,by rw[v.qf];exact zf _⟩⟩;have A:vr W r.vars 0 [] 0+(W*(r.qc.length+1)+r.qc.length)+3<=b:=o;obtain⟨j,ok,I,g⟩:=Ij (Ns:=qN wd R r) (D0:=D) (c0:=c0) (k:=k) f.fine C E H f.hpred f.head _ (zf _) s b R _ _ n F (Me f.fine C _) (by omega);have d:∀x,(∃y,qT r h (qN wd R r) y/\x=zF r.head y)↔∃y,((∀(i:Nat) (l:zt),r.qc[i]?=some l->P i (zF l y))/\∀l∈r.qp,D l.pred (zF l y)=none)/\x=zF r.head y:=by
  intro x;constructor
  ·rintro⟨y,m,w⟩;obtain⟨G,J⟩:=(E1 f n.inv c t y).1 m;exact⟨y,⟨G,fun l e=>by rw[←B l e];exact J l e⟩,w⟩
  ·rintro⟨y,m,w⟩;exact⟨y,(E1 f n.inv c t y).2 ⟨m.1,fun l e=>by rw[B l e];exact m.2 l e⟩,w⟩
 exact⟨j,ok,I,g.mid,g.mono,fun q x u=>(g.sound q x u).imp id fun z=>⟨z.1,(d x).1 z.2⟩,fun q=>⟨(g.yes q).1,fun x u=>(g.yes q).2 x ((d x).2 u)⟩,g.no⟩
structure t9 (ar:List Nat) (W k:Nat) (D:DB) (c0:List Nat) (mr:Nat) (want:Nat->zk->Prop) (R R':zw) (ok:Bool):Prop where
 mid:Qr ar W k D c0 R'
 mono:∀q x,x∈R.qo.getD q []->x∈R'.qo.getD q []
 sound:∀q x,x∈R'.qo.getD q []->x∈R.qo.getD q []∨want q x
 yes:ok=true->R'.count<=mr
 no:ok=false->R'.count>mr
theorem K5{k:Nat}{D0 D:DB}{w:zZ}(u:eP ar W w r D0 D c0)(F:pK ar D)(A:n5 r ar W)(C:∀a∈ar,a<=3)(H:0<W)(p:mr<=1048576){R:zw}(B:Qr ar W k D c0 R)(G:R.count<=mr)(J:∀l∈r.qp,∀x,zyf ar R l.pred x=D l.pred x)(c:Nat)(o:fQ W r<=c):
  ∃j ok,kq c wd mr true R w=some (j,ok)/\t9 ar W k D c0 mr (fun q x=>q=r.head.pred/\Rf r D x) R j ok/\(ok=true->∀x,Rf r D x->P9 (zyf ar j) r.head.pred x):=by
 have E:∀(i:Nat) (l:zt) (T:zi),r.qc[i]?=some l->(w.qm.map (·.all))[i]?=some T->uM T l W ((fun i x=>∃l,r.qc[i]?=some l/\P9 D l.pred x) i)/\∀x,(fun i x=>∃l,r.qc[i]?=some l/\P9 D l.pred x) i x->PG (ar.getD l.pred 0) x:=by
  intro i l T d h;simp only[li,vE] at h;obtain⟨V,I,rfl⟩:=h;refine⟨(u.qm i l V d I).all.congr fun x=>⟨fun q=>⟨l,d,q⟩,fun⟨m,b,f⟩=>?_⟩,fun x ⟨m,b,f⟩=>?_⟩
  ·rw[d] at b;simp only[zr] at b;subst b;exact f
  ·rw[d] at b;simp only[zr] at b;subst b;exact(F _ x f).2
 obtain⟨j,ok,K,g⟩:=Ar (wd:=wd) A C H p B G (by simp[u.len]) E J c o;have e:∀x,(∃y,((∀(i:Nat) (l:zt),r.qc[i]?=some l->(∃m,r.qc[i]?=some m/\P9 D m.pred (zF l y)))/\∀l∈r.qp,D l.pred (zF l y)=none)/\x=zF r.head y)↔Rf r D x:=by
  intro x;constructor
  ·rintro⟨y,⟨b,f⟩,n⟩;refine⟨y,fun l d=>?_,f,n⟩;obtain⟨i,v,rfl⟩:=vG d;obtain⟨m,t,L⟩:=b i _ (yr v);rw[yr v] at t;simp only[zr] at t;subst t;exact L
  ·rintro⟨y,b,f,n⟩;exact⟨y,⟨fun i l d=>⟨l,d,b l (fe d)⟩,f⟩,n⟩
 unfold kq;rw[zb rfl,u.rule];exact⟨j,ok,K,⟨g.mid,g.mono,fun q x s=>(g.sound q x s).imp id fun z=>⟨z.1,(e x).1 z.2⟩,fun q=>(g.yes q).1,g.no⟩,fun q x s=>(g.yes q).2 x ((e x).2 s)⟩
def Rl(r:zq)(D0 D:DB)(i:Nat)(y:List Nat):Prop:=∃(j:Nat) (l:zt),i<=j/\r.qc[j]?=some l/\P9 D l.pred (zF l y)/\¬P9 D0 l.pred (zF l y)/\(∀(t:Nat) (a:zt),r.qc[t]?=some a->(t<j->P9 D0 a.pred (zF a y))/\(j<t->P9 D a.pred (zF a y)))/\∀l∈r.qp,D l.pred (zF l y)=none
theorem Gl{k:Nat}{D0 D:DB}{w:zZ}(K:eP ar W w r D0 D c0)(S:pK ar D)(P:∀p x,P9 D0 p x->P9 D p x)(Y:n5 r ar W)(h3:∀a∈ar,a<=3)(hW:0<W)(aa:mr<=1048576)(v:Nat)(Z:fQ W r<=v)(af:∀l∈r.qp,l.pred≠r.head.pred):
  ∀(n i:Nat) (R:zw),i+n=w.qm.length->Qr ar W k D c0 R->R.count<=mr->(∀l∈r.qp,∀x,zyf ar R l.pred x=D l.pred x)->∃R' ok,jv v wd mr w n i R=some (R',ok)/\t9 ar W k D c0 mr (fun q x=>q=r.head.pred/\Rf r D x) R R' ok/\(ok=true->∀y,Rl r D0 D i y->P9 (zyf ar R') r.head.pred (zF r.head y)):=by
 intro n;induction n with
 |zero=>
  intro i R hi M X _;refine⟨R,true,rfl,⟨M,fun q x c=>c,fun q x c=>zg c,fun _=>X,fun q=>by cases q⟩,fun _ y L=>?_⟩;obtain⟨j,l,b,d,_⟩:=L;have:=(jA.1 d).1;have:=K.len;omega
 |succ n ih=>
  intro i R hi M X hn;have E:i<w.qm.length:=by omega
  have B:i<r.qc.length:=by rw[←K.len];exact E
  have hV:=K.qm i _ _ (yr B) (yr E);have ad:=(Y.qc _ (zv B)).2;have hg:w.qm.getD i ⟨⟨0,[]⟩,zi.zero,zi.zero,zi.zero⟩=w.qm[i]:=P5 _ E;unfold jv;rw[hg];by_cases s:w.qm[i].qo.count>0
  ·rw[zb s];have hT:∀(t:Nat) (l:zt) (T:zi),r.qc[t]?=some l->(PL w.qm i)[t]?=some T->uM T l W ((fun t x=>∃l,r.qc[t]?=some l/\(t<i->P9 D0 l.pred x)/\(t=i->P9 D l.pred x/\¬P9 D0 l.pred x)/\(i<t->P9 D l.pred x)) t)/\∀x,(fun t x=>∃l,r.qc[t]?=some l/\(t<i->P9 D0 l.pred x)/\(t=i->P9 D l.pred x/\¬P9 D0 l.pred x)/\(i<t->P9 D l.pred x)) t x->PG (ar.getD l.pred 0) x:=by
    intro t l T h H;unfold PL at H;simp only[li,vE,List.getElem?_zipIdx] at H;obtain⟨⟨V,j⟩,⟨V',ae,N⟩,rfl⟩:=H;simp only[vF,yc] at N;obtain⟨rfl,rfl⟩:=N;have G:=K.qm t l V' h ae;have Q:∀x,(∃l,r.qc[t]?=some l/\(t<i->P9 D0 l.pred x)/\(t=i->P9 D l.pred x/\¬P9 D0 l.pred x)/\(i<t->P9 D l.pred x))->PG (ar.getD l.pred 0) x:=by
     rintro x ⟨e,b,d,u,A⟩;rw[h] at b;simp only[zr] at b;subst b;rcases pe t i with z|z|z
     ·exact(S _ x (P _ x (d z))).2
     ·exact(S _ x (u z).1).2
     ·exact(S _ x (A z)).2
    refine⟨?_,Q⟩;simp only;by_cases h1:t<i
    ·rw[zb h1];refine G.before.congr fun x=>⟨fun q=>⟨l,h,fun _=>q,fun z=>by omega,fun z=>by omega⟩,fun⟨e,b,d,_,_⟩=>?_⟩;rw[h] at b;simp only[zr] at b;subst b;exact d h1
    ·rw[za h1];by_cases h2:t=i
     ·rw[zb h2];refine G.qo.congr fun x=>⟨fun q=>⟨l,h,fun z=>by omega,fun _=>q,fun z=>by omega⟩,fun⟨e,b,_,u,_⟩=>?_⟩;rw[h] at b;simp only[zr] at b;subst b;exact u h2
     ·rw[za h2];refine G.all.congr fun x=>⟨fun q=>⟨l,h,fun z=>by omega,fun z=>by omega,fun _=>q⟩,fun⟨e,b,_,_,A⟩=>?_⟩;rw[h] at b;simp only[zr] at b;subst b;exact A (by omega)
   obtain⟨R1,ok,a1,o⟩:=Ar (wd:=wd) Y h3 hW aa M X (by simp[PL,K.len]) hT hn v Z;rw[K.rule,a1];have f:∀x,(∃y,((∀(t:Nat) (l:zt),r.qc[t]?=some l->(∃e,r.qc[t]?=some e/\(t<i->P9 D0 e.pred (zF l y))/\(t=i->P9 D e.pred (zF l y)/\¬P9 D0 e.pred (zF l y))/\(i<t->P9 D e.pred (zF l y))))/\∀l∈r.qp,D l.pred (zF l y)=none)/\x=zF r.head y)->Rf r D x:=by
    rintro x ⟨y,⟨b,d⟩,u⟩;refine⟨y,fun l h=>?_,d,u⟩;obtain⟨t,ht,rfl⟩:=vG h;obtain⟨e,s1,s2,s3,s4⟩:=b t _ (yr ht);rw[yr ht] at s1;simp only[zr] at s1;subst s1;rcases pe t i with z|z|z
    ·exact P _ _ (s2 z)
    ·exact(s3 z).1
    ·exact s4 z
   cases ok with
   |false=>
    exact⟨R1,false,rfl,⟨o.mid,o.mono,fun q x c=>(o.sound q x c).imp id fun z=>⟨z.1,f x z.2⟩,(fun q=>by cases q),o.no⟩,fun q=>by cases q⟩
   |true=>
    simp only;obtain⟨b1,b2⟩:=o.yes rfl;have ag:∀l∈r.qp,∀x,zyf ar R1 l.pred x=D l.pred x:=by
     intro l h x;have ab:=af l h;rw[o.mid.abs,←hn l h x,M.abs];cases hq:D l.pred x with
     |some m=>rfl
     |none=>
      simp only;by_cases c:x∈R.qo.getD l.pred []
      ·rw[zb c,zb (o.mono _ x c)]
      ·rw[za c,za];intro ac;rcases o.sound _ x ac with z|z
       ·exact c z
       ·exact ab z.1
    obtain⟨R2,I,c1,C,c3⟩:=ih (i+1) R1 (by omega) o.mid b1 ag;refine⟨R2,I,c1,⟨C.mid,fun q x c=>C.mono q x (o.mono q x c),fun q x c=>?_,C.yes,C.no⟩,fun J y L=>?_⟩
    ·rcases C.sound q x c with z|z
     ·exact(o.sound q x z).imp id fun z=>⟨z.1,f x z.2⟩
     ·exact ze z
    ·obtain⟨j,l,b,d,u,A,O,U⟩:=L;by_cases F:j=i
     ·subst F;refine o.mid.grow C.mid C.mono (b2 _ ⟨y,⟨fun t e g=>⟨e,g,fun z=>(O t e g).1 z,fun z=>?_,fun z=>(O t e g).2 z⟩,U⟩,rfl⟩);subst z;rw[d] at g;simp only[zr] at g;subst g;exact⟨u,A⟩
     ·exact c3 J y ⟨j,l,by omega,d,u,A,O,U⟩
  ·rw[za s];obtain⟨R2,I,c1,C,c3⟩:=ih (i+1) R (by omega) M X hn;refine⟨R2,I,c1,C,fun J y L=>?_⟩;obtain⟨j,l,b,d,u,A,O,U⟩:=L;by_cases F:j=i
   ·subst F;rw[yr B] at d;simp only[zr] at d;subst d;have hs:=(hV.qo.sat ad (fun x c=>(S _ x c.1).2) y).2 ⟨u,A⟩;exact zB (Nat.pos_of_ne_zero (hs.count hV.qo.ok hV.qo.ql (Y.fine.qg _ (zv B)))) s
   ·exact c3 J y ⟨j,l,by omega,d,u,A,O,U⟩
end
section
open Classical
variable {ar:List Nat}{W wd:Nat}{D0:DB}{ws:List zZ}{rs:List zq}
structure p8 (rs:List zq) (ar:List Nat) (W:Nat):Prop where
 rules:∀r∈rs,n5 r ar W
 apart:∀r∈rs,∀r'∈rs,∀l∈r.qp,l.pred≠r'.head.pred
def sc(rs:List zq)(R:zw):Prop:=∀q x,x∈R.qo.getD q []->∃r∈rs,q=r.head.pred
theorem Qr.qp{ar:List Nat}{W k:Nat}{D:DB}{c0:List Nat}{R:zw}{rs:List zq}(h:Qr ar W k D c0 R)(hs:p8 rs ar W)(e:sc rs R){r:zq}(c:r∈rs):∀l∈r.qp,∀x,zyf ar R l.pred x=D l.pred x:=by
 intro l f x;rw[h.abs];cases i:D l.pred x with
 |some m=>rfl
 |none=>
  simp only;rw[za];intro b;obtain⟨g,d,a⟩:=e _ x b;exact hs.apart r c g d l f a
inductive jN (ar:List Nat) (W:Nat) (D0 D:DB) (c:List Nat):List zZ->List zq->Prop
 |nil:jN ar W D0 D c [] []
 |cons {w:zZ} {r:zq} {ws:List zZ} {rs:List zq}:eP ar W w r D0 D c->jN ar W D0 D c ws rs->jN ar W D0 D c (w::ws) (r::rs)
def pi(first:Bool)(r:zq)(D0 D:DB)(x:zk):Prop:=if first then Rf r D x else ∃y,Rl r D0 D 0 y/\x=zF r.head y
theorem LW{k:Nat}{D:DB}{c0:List Nat}(K:pK ar D)(I:∀p x,P9 D0 p x->P9 D p x)(J:∀a∈ar,a<=3)(L:0<W){mr:Nat}(s:mr<=1048576)(c:Nat){f:List zq}(hs:p8 f ar W)(n:∀r∈f,fQ W r<=c)(first:Bool)(Y:jN ar W D0 D c0 ws rs)(h:∀r∈rs,r∈f):
  ∀(R:zw),Qr ar W k D c0 R->R.count<=mr->sc f R->∃A ok,kG c wd mr first ws R=some (A,ok)/\t9 ar W k D c0 mr (fun q x=>∃r∈rs,q=r.head.pred/\Rf r D x) R A ok/\sc f A/\(ok=true->∀r∈rs,∀x,pi first r D0 D x->P9 (zyf ar A) r.head.pred x):=by
 induction Y with
 |nil=>
  intro R l B C;exact⟨R,true,rfl,⟨l,fun q x b=>b,fun q x b=>zg b,fun _=>B,fun q=>by cases q⟩,C,fun _ r N=>by cases N⟩
 |@cons w r ws rs m P U=>
  intro R l B C;have d:=h r (by simp);have M:=l.qp hs C d;have t:∃g ok,kq c wd mr first R w=some (g,ok)/\t9 ar W k D c0 mr (fun q x=>q=r.head.pred/\Rf r D x) R g ok/\(ok=true->∀x,pi first r D0 D x->P9 (zyf ar g) r.head.pred x):=by
   cases first with
   |true=>
    obtain⟨g,ok,v,e,o⟩:=K5 (wd:=wd) m K (hs.rules r d) J L s l B M c (n r d);exact⟨g,ok,v,e,fun q x b=>o q x (by simpa [pi] using b)⟩
   |false=>
    obtain⟨g,ok,v,e,o⟩:=Gl (wd:=wd) m K I (hs.rules r d) J L s c (n r d) (hs.apart r d r d) w.qm.length 0 R (by omega) l B M;refine⟨g,ok,?_,e,fun q x b=>?_⟩
    ·unfold kq;exact v
    ·have G:∃y,Rl r D0 D 0 y/\x=zF r.head y:=by simpa [pi] using b
     obtain⟨y,T,rfl⟩:=G;exact o q y T
  obtain⟨g,ok,v,e,o⟩:=t;have u:sc f g:=by
   intro q x b;rcases e.sound q x b with z|z
   ·exact C q x z
   ·exact⟨r,d,z.1⟩
  unfold kG;rw[v];cases ok with
  |false=>
   exact⟨g,false,rfl,⟨e.mid,e.mono,fun q x b=>(e.sound q x b).imp id fun z=>⟨r,by simp,z⟩,e.yes,e.no⟩,u,fun q=>by cases q⟩
  |true=>
   simp only;obtain⟨Q,F,X,i,Z,V⟩:=U (fun x b=>h x (by simp[b])) g e.mid (e.yes rfl) u;refine⟨Q,F,X,⟨i.mid,fun q x b=>i.mono q x (e.mono q x b),fun q x b=>?_,i.yes,i.no⟩,Z,fun H E j x b=>?_⟩
   ·rcases i.sound q x b with z|⟨E,O,S⟩
    ·exact(e.sound q x z).imp id fun z=>⟨r,by simp,z⟩
    ·exact ze ⟨E,by simp[O],S⟩
   ·rcases zu.1 j with rfl|j
    ·exact e.mid.grow i.mid i.mono (o rfl x b)
    ·exact V H E j x b
theorem Hr{r:zq}{D:DB}(s:∀p x,P9 D0 p x->P9 D p x){y:List Nat}(B:∀l∈r.qc,P9 D l.pred (zF l y))(A:∀l∈r.qp,D l.pred (zF l y)=none):Rl r D0 D 0 y∨Rf r D0 (zF r.head y):=by
 by_cases c:∀l∈r.qc,P9 D0 l.pred (zF l y)
 ·refine ze ⟨y,c,fun l e=>?_,rfl⟩;cases d:D0 l.pred (zF l y) with
  |none=>rfl
  |some m=>
   have:=s l.pred (zF l y) (by unfold P9;rw[d];rfl);unfold P9 at this;rw[A l e] at this;cases this
 ·refine zg ?_;have q:∃(j:Nat) (l:zt),r.qc[j]?=some l/\¬P9 D0 l.pred (zF l y):=by
   false_or_by_contra
   rename_i h;apply c;intro l e;obtain⟨i,F,rfl⟩:=vG e;false_or_by_contra
   rename_i d;exact h ⟨i,_,yr F,d⟩
  have f:∀n j:Nat,j=n->(∃l,r.qc[j]?=some l/\¬P9 D0 l.pred (zF l y))->∃(j:Nat) (l:zt),r.qc[j]?=some l/\¬P9 D0 l.pred (zF l y)/\∀(t:Nat) (a:zt),t<j->r.qc[t]?=some a->P9 D0 a.pred (zF a y):=by
   intro n;induction n using Nat.strongRecOn with
   |_ n G=>
    rintro j rfl ⟨l,e,d⟩;by_cases b:∃(t:Nat) (a:zt),t<j/\r.qc[t]?=some a/\¬P9 D0 a.pred (zF a y)
    ·obtain⟨t,a,k,g,o⟩:=b;exact G t k t rfl ⟨a,g,o⟩
    ·refine⟨j,l,e,d,fun t a k g=>?_⟩;false_or_by_contra
     rename_i o;exact b ⟨t,a,k,g,o⟩
  obtain⟨u,H,J,C⟩:=q;obtain⟨j,l,v,I,E⟩:=f u u rfl ⟨H,J,C⟩;exact⟨j,l,zx _,v,B l (fe v),I,fun t a w=>⟨fun z=>E t a z w,fun _=>B a (fe w)⟩,A⟩
theorem Ai{ar:List Nat}{W wd k:Nat}(H:W=zJ wd){D0 D:DB}{c0:List Nat}{R':zw}(y:∀p x,P9 D0 p x->P9 D p x)(f:Qr ar W k D c0 R')(N:R'.count<=1048576)(a:Nat)(o:3*(W+1)<=a):
  ∀(d:List zt) (vs:List y6),vs.length=d.length->(∀l∈d,l.pred<ar.length)->(∀(i:Nat) (l:zt) (V:y6),d[i]?=some l->vs[i]?=some V->m7 V l W (P9 D0 l.pred) (P9 D l.pred) (fun x=>P9 D l.pred x/\¬P9 D0 l.pred x) (c0.getD l.pred 0)) →
   ∃b,g4 a wd R'.qo vs=some b/\b.length=d.length/\∀(i:Nat) (l:zt) (V:y6),d[i]?=some l->b[i]?=some V->m7 V l W (P9 D l.pred) (P9 (zyf ar R') l.pred) (fun x=>P9 (zyf ar R') l.pred x/\¬P9 D l.pred x) ((R'.rows.map (·.count)).getD l.pred 0)
 |[],[],_,_,_=>⟨[],rfl,rfl,fun i l V h=>by simp at h⟩
 |[],V::vs,A,_,_=>by simp at A
 |l::d,[],A,_,_=>by simp at A
 |l::d,V::vs,A,K,G=>by
  have I:=G 0 l V rfl rfl;have u:=K l (by simp);have g:l.pred<R'.qo.length:=by rw[f.flen];exact u
  have j:l.pred<R'.rows.length:=by rw[f.inv.len];exact u
  have v:=f.qo l.pred g;have s:=f.cnts l.pred j;have E:=iU R'.rows l.pred j;rw[←f.inv.cnt] at E;have F:R'.qo.getD l.pred []=R'.qo[l.pred]:=P5 _ g;rw[F] at s;obtain⟨C,Q,r⟩:=Dp I H R'.qo[l.pred] (fun x n=>(v.2 x n).2.1) (by omega) a o;obtain⟨b,L,O,P⟩:=Ai H y f N a o d vs (by simpa using A) (fun x n=>K x (by simp[n])) (fun i B C z t=>G (i+1) B C (by simpa using z) (by simpa using t));have c:∀x,P9 (zyf ar R') l.pred x↔P9 D l.pred x∨x∈R'.qo[l.pred]:=by
   intro x;unfold P9;rw[f.abs,F];cases R:D l.pred x with
   |some m=>simp
   |none=>
    simp only;by_cases n:x∈R'.qo[l.pred]
    ·simp[n]
    ·simp[n]
  refine⟨C::b,?_,by simp[O],fun i B U z t=>?_⟩
  ·unfold g4;rw[I.lit,zb g,F,Q,L]
  ·cases i with
   |zero=>
    simp only[dK,zr] at z t;subst z;subst t;refine⟨r.lit,r.before.congr fun x=>?_,r.qo.congr fun x=>?_,r.all.congr fun x=>(c x).symm,?_⟩
    ·constructor
     ·rintro(q|q)
      ·exact y _ x q
      ·exact q.1
     ·intro q;by_cases J:P9 D0 l.pred x
      ·exact zg J
      ·exact ze ⟨q,J⟩
    ·constructor
     ·intro q;refine⟨(c x).2 (ze q),fun w=>?_⟩;unfold P9 at w;rw[(v.2 x q).2.2] at w;cases w
     ·rintro⟨M,w⟩;exact((c x).1 M).resolve_left w
    ·have e:(R'.rows.map (·.count)).getD l.pred 0=R'.rows[l.pred].count:=by simp[List.getD,j]
     rw[e,s];exact r.few
   |succ i=>exact P i B U (by simpa using z) (by simpa using t)
theorem Of{k:Nat}(q:W=zJ wd){D:DB}{c0:List Nat}{R':zw}(f:∀p x,P9 D0 p x->P9 D p x)(h:Qr ar W k D c0 R')(n:R'.count<=1048576)(a:Nat)(d:3*(W+1)<=a)(t:jN ar W D0 D c0 ws rs)(g:∀r∈rs,∀l∈r.qc,l.pred<ar.length):
  ∃b,kM a wd R'.qo ws=some b/\jN ar W D (zyf ar R') (R'.rows.map (·.count)) b rs:=by
 induction t with
 |nil=>exact⟨[],rfl,jN.nil⟩
 |@cons w r ws rs c m s=>
  obtain⟨b,o,u⟩:=s (fun x i=>g x (by simp[i]));obtain⟨e,y,j,v⟩:=Ai q f h n a d r.qc w.qm c.len (g r (by simp)) c.qm;refine⟨{w with qm:=e}::b,?_,jN.cons ⟨c.rule,j,v⟩ u⟩;unfold kM;rw[y,o]
def gT(rs:List zq)(D:DB)(p:Nat)(x:zk):Prop:=∃r∈rs,p=r.head.pred/\Rf r D x
noncomputable def zy1(rs:List zq)(k:Nat)(D:DB):DB:=fun p x=>match D p x with
 |some m=>some m
 |none=>if gT rs D p x then some k else none
theorem Qr.clear{R:zw}(h:qB ar W R):Qr ar W R.qw (zyf ar R) (R.rows.map (·.count)) (vX R):=by
 have c:∀p,(List.replicate R.rows.length ([]:List zk)).getD p []=[]:=fun p=>by
  by_cases a:p<R.rows.length<;>simp[List.getD,a]
 refine⟨⟨h.len,h.tries,h.cnt⟩,rfl,by simp[vX,h.len],fun p a=>?_,fun p x=>?_,fun p a=>?_⟩
 ·simp only[vX,tO];exact⟨List.nodup_nil,fun x d=>by cases d⟩
 ·show zyf ar R p x=match zyf ar R p x with|some m=>some m|none=>if x∈(List.replicate R.rows.length ([]:List zk)).getD p [] then some R.qw else none
  rw[c];cases zyf ar R p x<;>simp
 ·show R.rows[p].count=(R.rows.map (·.count)).getD p 0+((List.replicate R.rows.length ([]:List zk)).getD p []).length;have b:p<R.rows.length:=a;rw[c,show(R.rows.map (·.count)).getD p 0=R.rows[p].count by simp[List.getD,b]];rfl
theorem Qr.start{R:zw}(h:qB ar W R):Qr ar W (R.qw+1) (zyf ar R) (R.rows.map (·.count)) (vX {R with qw:=R.qw+1}):=
 Qr.clear (R:={R with qw:=R.qw+1}) ⟨h.len,h.tries,h.cnt⟩
theorem NX(v:W=zJ wd)(J:∀a∈ar,a<=3){mr:Nat}(B:mr<=1048576)(c:Nat)(hs:p8 rs ar W)(t:(∀r∈rs,fQ W r<=c)/\3*(W+1)<=c)(first:Bool){R:zw}(K:qB ar W R)(L:R.count<=mr)(s:∀p x,P9 D0 p x->P9 (zyf ar R) p x)(H:jN ar W D0 (zyf ar R) (R.rows.map (·.count)) ws rs)(C:first=false->∀p x,gT rs D0 p x->P9 (zyf ar R) p x):
  ∃b i ok,ni c wd mr first ws R=some (b,i,ok)/\qB ar W b/\b.qw=R.qw+1/\(∀p x,P9 (zyf ar b) p x->P9 (zy1 rs (R.qw+1) (zyf ar R)) p x)/\(ok=false->b.count>mr)/\(ok=true->b.count<=mr/\zyf ar b=zy1 rs (R.qw+1) (zyf ar R)/\jN ar W (zyf ar R) (zyf ar b) (b.rows.map (·.count)) i rs):=by
 have N:0<W:=by rw[v];unfold zJ;split<;>omega
 have A:=Qr.start K;have u:∀q x,x∉(vX {R with qw:=R.qw+1}).qo.getD q []:=fun q x f=>by
  have:(List.replicate R.rows.length ([]:List zk)).getD q []=[]:=by by_cases O:q<R.rows.length<;>simp[List.getD,O]
  have z:x∈(List.replicate R.rows.length ([]:List zk)).getD q []:=f;rw[this] at z;cases z
 obtain⟨b,ok,P,g,T,G⟩:=LW (wd:=wd) (CO ar R) s J N B c hs t.1 first H (fun r k=>k) (vX {R with qw:=R.qw+1}) A L (fun q x f=>zB f (u q x))
 have d:∀p x,x∈b.qo.getD p []->gT rs (zyf ar R) p x:=fun p x f=>(g.sound p x f).resolve_left (u p x);have j:∀p x,P9 (zyf ar b) p x->P9 (zy1 rs (R.qw+1) (zyf ar R)) p x:=by
  intro p x f;unfold P9 at f ⊢;rw[g.mid.abs] at f;unfold zy1;cases w:zyf ar R p x with
  |some m=>rfl
  |none=>
   rw[w] at f;by_cases n:x∈b.qo.getD p []
   ·rw[zb (d p x n)];rfl
   ·rw[za n] at f;cases f
 unfold ni;rw[P];cases ok with
 |false=>exact⟨b,ws,false,rfl,g.mid.inv,g.mid.qw,j,fun _=>g.no rfl,fun q=>by cases q⟩
 |true=>
  have h:=g.yes rfl;obtain⟨i,S,M⟩:=Of v s g.mid (by omega) c t.2 H (fun r k l Q=>((hs.rules r k).qc l Q).1);simp only[S,jj];refine⟨b,i,true,rfl,g.mid.inv,g.mid.qw,j,fun q=>(by cases q),fun _=>⟨h,?_,M⟩⟩;have o:∀p x,gT rs (zyf ar R) p x->P9 (zyf ar b) p x:=by
   rintro p x ⟨r,k,rfl,y,F,I,rfl⟩;cases first with
   |true=>exact G rfl r k _ (by simp only[pi,if_true];exact⟨y,F,I,rfl⟩)
   |false=>
    rcases Hr s F I with q|q
    ·exact G rfl r k _ (by simp only[pi];exact⟨y,q,rfl⟩)
    ·have D:=C rfl r.head.pred _ ⟨r,k,rfl,q⟩;unfold P9 at D ⊢;rw[g.mid.abs];cases w:zyf ar R r.head.pred (zF r.head y) with
     |some m=>rfl
     |none=>rw[w] at D;cases D
  funext p x;have E:=g.mid.abs p x;unfold zy1;rw[E];cases w:zyf ar R p x with
  |some m=>rfl
  |none=>
   rw[w] at E;by_cases e:gT rs (zyf ar R) p x
   ·have:=o p x e;unfold P9 at this;rw[E] at this;by_cases n:x∈b.qo.getD p []
    ·rw[zb n,zb e]
    ·rw[za n] at this;cases this
   ·rw[za e,za (fun n=>e (d p x n))]
end
end Go.Proofs.YteampbddflhngaaGreat
