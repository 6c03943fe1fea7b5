import Derived.Test.YteampbddflhngaaGreatZ01
namespace Go.Proofs.YteampbddflhngaaGreat
set_option linter.all false
section
variable {r:zr}{Ts Ns:List zi}{J:z9}
structure RO (r:zr) (Ts Ns:List zi) (W:Nat) (J:z9) (d:Nat):Prop where
 stat:qY r Ts Ns J
 qi:Ir r J d
 nob:Mi r Ns J.ja d
 «from» : ∀i,i<d->J.from.getD i 0=J.ja.getD i 0+1
 small:∀i,i<d->J.ja.getD i 0<W
theorem qY.same{a:z9}(h:qY r Ts Ns J)(s:qJ J a):qY r Ts Ns a:=by
 rw[s];exact⟨h.head,h.vars,h.je,h.jg,h.last,h.bars,h.qy,h.vlen,h.flen⟩
theorem RO.same{r:zr}{Ts Ns:List zi}{W:Nat}{J a:z9}{d:Nat}(h:RO r Ts Ns W J d)(s:qJ J a):RO r Ts Ns W a d:=by
 refine⟨h.stat.same s,?_,?_,?_,?_⟩
 ·rw[s];exact h.qi
 ·rw[s];exact h.nob
 ·rw[s];exact h.from
 ·rw[s];exact h.small
theorem RO.back{W d b:Nat}(h:RO r Ts Ns W J d)(e:b<=d):RO r Ts Ns W J b:=by
 refine⟨h.stat,fun i l s m g=>?_,fun x p f=>h.nob x p (by omega),fun i o=>h.from i (by omega),fun i o=>h.small i (by omega)⟩;obtain⟨j,q,c⟩:=h.qi i l s m g;have u:=(eb l e).length_le;refine⟨j,fun k f t=>?_,?_⟩
 ·rw[oF l J.ja e,List.take_take,d8 f];exact q k (by omega) t
 ·rw[oF l J.ja e];have a:yn l J.ja d=(yn l J.ja d).take (y7 l b).length++(yn l J.ja d).drop (y7 l b).length:=(jt _ _).symm;rw[a,nL] at c;cases n:Rn s.rows 0 ((yn l J.ja d).take (y7 l b).length) with
  |none=>rw[n] at c;cases c
  |some x=>rfl
theorem qY.side(h:qY r Ts Ns J){i:Nat}{s:yM}(hs:J.qy[i]?=some s):Ts[i]?=some s.rows:=by
 rw[←h.qy];simp[hs]
theorem qY.some{r:zr}{Ts Ns:List zi}{W:Nat}{J:z9}(h:qY r Ts Ns J)(a:dL r Ts W){i:Nat}{l:zu}(b:r.qc[i]?=some l):∃s,J.qy[i]?=some s:=by
 have c:J.qy.length=r.qc.length:=by rw[←a.len,←h.qy];simp
 have d:=(jX.1 b).1;exact⟨_,yp (by omega)⟩
theorem qY.holdsAt(h:qY r Ts Ns J){d:Nat}(a:d<5):J.je.getD d []=xa r d:=by
 rw[h.je];simp[List.getD,a]
theorem RO.hold{W d:Nat}(h:RO r Ts Ns W J d)(n:gU r)(k:dL r Ts W){x:Nat×Nat}(q:x∈xa r d):
  ∃l s,r.qc[x.1]?=some l/\J.qy[x.1]?=some s/\zH l d=true/\x.2=(y7 l d).length/\x.2<3/\vG J x=true/\vC s.rows/\s.rows.qf<=W/\∀v,Rn s.rows 0 (yn l J.ja d++[v])=jG J x v:=by
 obtain⟨i,g⟩:=x;obtain⟨l,b,j,c⟩:=A9 q;obtain⟨s,a⟩:=h.stat.some k b;have t:(y7 l (d+1)).length=g+1:=by rw[lV,zc j,c];simp
 have e:g<3:=by
  have:=ec l (d+1);have:=n.qg l (dT b);omega
 have f:=(jX.1 a).1;obtain⟨m,y,o⟩:=k.ok i l s.rows b (h.stat.side a);refine⟨l,s,b,a,j,c,e,by simp[vG,f,e],m,o,fun v=>?_⟩;obtain⟨u,p,w⟩:=h.qi i l s b a;have:=p g (by omega) e;rw[c,show(yn l J.ja d).take (y7 l d).length=yn l J.ja d by rw[←ni l J.ja d];exact vr] at this;rw[nL,this];unfold jG;simp only[List.getD,a,ux,Option.bind_some,Rn,c];cases zG s.rows _ v<;>rfl
theorem wI(h:qY r Ts Ns J)(k:Nat):uH J k=true↔∃x∈r.qp.zip Ns,uQ x.1=k/\(uq x.2 (zF x.1 J.ja)).isSome=true:=by
 unfold uH;rw[h.bars,List.any_map,gM];simp
theorem RO.take{r:zr}{Ts Ns:List zi}{W:Nat}{J:z9}{d v:Nat}(h:RO r Ts Ns W J d)(hr:gU r)(V:dL r Ts W)(hd:d<r.vars)(hv:∀x∈xa r d,(jG J x v).isSome=true)(hW:v<W):
  (ug J d v).ja=J.ja.set d v/\(∀i,i<d->(ug J d v).from.getD i 0=J.from.getD i 0)/\(ug J d v).from.getD d 0=v+1/\(d+1<5->(ug J d v).from.getD (d+1) 0=0)/\RO r Ts Ns W (ug J d v) d/\(uH (ug J d v) (d+1)=false->RO r Ts Ns W (ug J d v) (d+1)):=by
 have ad:=hr.vars;have aa:d<5:=by omega
 have Z:=h.stat.vlen;have ab:=h.stat.flen;unfold ug;rw[za (by omega),h.stat.holdsAt aa];obtain⟨Q,e1,e2,U⟩:=Bz v (xa r d) {J with ja:=J.ja.set d v,«from»:=(if d+1<5 then(J.from.set d (v+1)).set (d+1) 0 else J.from.set d (v+1))} (DD r d) (fun x w=>by
  obtain⟨_,_,_,_,_,_,_,q,_⟩:=h.hold hr V w;unfold vG at q ⊢;exact q)
 rw[e1];simp only at e2 U ⊢;have C:∀i,i<d->(if d+1<5 then(J.from.set d (v+1)).set (d+1) 0 else J.from.set d (v+1)).getD i 0=J.from.getD i 0:=by
  intro i E;split
  ·rw[uv,za (by omega),uv,za (by omega)]
  ·rw[uv,za (by omega)]
 have M:(if d+1<5 then(J.from.set d (v+1)).set (d+1) 0 else J.from.set d (v+1)).getD d 0=v+1:=by
  split
  ·rw[uv,za (by omega),uv,zc ⟨rfl,by omega⟩]
  ·rw[uv,zc ⟨rfl,by omega⟩]
 have A:Q.map (·.rows)=Ts:=by
  rw[←h.stat.qy];refine m7 fun i=>?_;simp only[lK];cases j:J.qy[i]? with
  |none=>
   have:J.qy.length<=i:=List.getElem?_eq_none_iff.1 j;rw[kV (by omega)]
  |some s=>
   rw[U i s j];simp only[jA,zt];cases (xa r d).lookup i with
   |none=>rfl
   |some Y=>simp only[setDown];split<;>rfl
 have e:qY r Ts Ns {J with qy:=Q,ja:=J.ja.set d v,«from»:=(if d+1<5 then(J.from.set d (v+1)).set (d+1) 0 else J.from.set d (v+1))}:=⟨h.stat.head,h.stat.vars,h.stat.je,h.stat.jg,h.stat.last,h.stat.bars,A,by simpa using Z,by show(if d+1<5 then(J.from.set d (v+1)).set (d+1) 0 else J.from.set d (v+1)).length=5;split<;>simpa using ab⟩;have t:∀l:zu,yn l (J.ja.set d v) d=yn l J.ja d:=fun l=>tY l fun p y _=>by rw[uv,za (by omega)]
 have f:∀(i:Nat) (l:zu) (s c:yM),r.qc[i]?=some l->J.qy[i]?=some s->Q[i]?=some c->c.qi.length=3/\(∀k,k<=(y7 l d).length->k<3->Rn c.rows 0 ((yn l J.ja d).take k)=some (c.qi.getD k 0))/\(Rn c.rows 0 (yn l J.ja d)).isSome=true/\(∀k,k<=(y7 l (d+1)).length->k<3->Rn c.rows 0 ((yn l (J.ja.set d v) (d+1)).take k)=some (c.qi.getD k 0))/\(Rn c.rows 0 (yn l (J.ja.set d v) (d+1))).isSome=true:=by
  intro i l s c g j a;obtain⟨n1,R,T⟩:=h.qi i l s g j;rw[U i s j] at a;by_cases I:zH l d=true
  ·have F:=RX g I;rw[JR (DD r d) F] at a;simp only[zt] at a;obtain⟨l',s0,u,H,_,q4,q5,_,_,_,q9⟩:=h.hold hr V F;simp only at u H q5;rw[g] at u;rw[j] at H;simp only[zt] at u H;subst u;subst H;have z:=hv _ F;obtain⟨bb,G⟩:=mm.1 z;have B:=q9 v;rw[G] at B;have y:yn l (J.ja.set d v) (d+1)=yn l J.ja d++[v]:=by rw[Bj l _ _ _ (by omega),zc I]
   have b:c.rows=s.rows:=by rw[←a];unfold setDown;split<;>rfl
   have L:(yn l J.ja d).length=(y7 l d).length:=ni _ _ _;have O:∀k,k<=(y7 l d).length->c.qi.getD k 0=s.qi.getD k 0:=by
    intro k o;rw[←a];unfold setDown;split
    ·rfl
    ·rw[uv,za (by omega)]
   have S:zG s.rows (s.qi.getD (y7 l d).length 0) v=some bb:=by
    unfold jG at G;simpa [List.getD,j] using G
   refine⟨by rw[←a];unfold setDown;split<;>simp[n1],fun k o h3=>by rw[b,O k o];exact R k o h3,by rw[b];exact T,fun k o h3=>?_,by rw[b,y,B];rfl⟩;rw[b,y];rw[lV,zc I,yq,List.length_singleton] at o;by_cases N:k<=(y7 l d).length
   ·rw[List.take_append_of_le_length (by omega),O k N];exact R k N h3
   ·have:k=(y7 l d).length+1:=by omega
    subst this;rw[xg (by simp[L]),B,←a];unfold setDown;rw[za (by omega)];simp only;rw[uv,zc ⟨rfl,by omega⟩,S];rfl
  ·have ac:∀Y,(i,Y)∉xa r d:=fun Y F=>by
    obtain⟨l',u,H,_⟩:=A9 F;rw[g] at u;simp only[zt] at u;subst u;exact I H
   rw[G4 ac] at a;simp only[zt] at a;subst a;have y:yn l (J.ja.set d v) (d+1)=yn l J.ja d:=by rw[Bj l _ _ _ (by omega),za I]
   have z:y7 l (d+1)=y7 l d:=by rw[lV,za I]
   exact⟨n1,R,T,by rw[y,z];exact R,by rw[y];exact T⟩
 have n:=fun(i:Nat) (l:zu) (c:yM) (g:r.qc[i]?=some l) (_:Q[i]?=some c)=>h.stat.some V g;have P:∀x∈r.qp.zip Ns,uQ x.1<=d->zF x.1 (J.ja.set d v)=zF x.1 J.ja:=fun x _ o=>nV x.1 fun p y=>by
  have:=sG x.1 y;rw[uv,za (by omega)]
 refine⟨trivial,C,M,fun h5=>?_,⟨e,fun i l c g a=>?_,fun x w o=>?_,fun i E=>?_,fun i E=>?_⟩,fun hb=>⟨e,fun i l c g a=>?_,fun x w o=>?_,fun i E=>?_,fun i E=>?_⟩⟩
 ·rw[zc h5,uv,zc ⟨rfl,by simp;omega⟩]
 ·obtain⟨s,j⟩:=n i l c g a;obtain⟨X,a2,a3,_,_⟩:=f i l s c g j a;exact⟨X,by rw[t];exact a2,by rw[t];exact a3⟩
 ·show uq x.2 (zF x.1 (J.ja.set d v))=none;rw[P x w o];exact h.nob x w o
 ·show(if d+1<5 then _ else _:List Nat).getD i 0=(J.ja.set d v).getD i 0+1;rw[C i E,uv,za (by omega)];exact h.from i E
 ·show(J.ja.set d v).getD i 0<W;rw[uv,za (by omega)];exact h.small i E
 ·obtain⟨s,j⟩:=n i l c g a;obtain⟨X,_,_,a4,a5⟩:=f i l s c g j a;exact⟨X,a4,a5⟩
 ·show uq x.2 (zF x.1 (J.ja.set d v))=none;by_cases K:uQ x.1<=d
  ·rw[P x w K];exact h.nob x w K
  ·cases F:uq x.2 (zF x.1 (J.ja.set d v)) with
   |none=>rfl
   |some m=>
    have:=(wI e (d+1)).2 ⟨x,w,by omega,by show(uq x.2 (zF x.1 (J.ja.set d v))).isSome=true;rw[F];rfl⟩;rw[hb] at this;cases this
 ·show(if d+1<5 then _ else _:List Nat).getD i 0=(J.ja.set d v).getD i 0+1;by_cases D:i=d
  ·subst D;rw[M,uv,zc ⟨rfl,by omega⟩]
  ·rw[C i (by omega),uv,za (by omega)];exact h.from i (by omega)
 ·show(J.ja.set d v).getD i 0<W;by_cases D:i=d
  ·subst D;rw[uv,zc ⟨rfl,by omega⟩];exact hW
  ·rw[uv,za (by omega)];exact h.small i (by omega)
end
section
variable {d W:Nat}{Ts Ns:List zi}
def JE(d:Nat)(vals:List Nat)(f:Nat)(y:List Nat):Prop:=(∀p,p<d->y.getD p 0=vals.getD p 0)/\f<=y.getD d 0∨∃i,i<d/\(∀p,p<i->y.getD p 0=vals.getD p 0)/\vals.getD i 0<y.getD i 0
def S7(r:zr)(Ts Ns:List zi)(E:zm->Prop)(d:Nat)(vals:List Nat)(f:Nat):Prop:=∀y,jq r Ts Ns y->E (zF r.head y)∨JE d vals f y
theorem Hn{l:zu}{e:Nat}(c:∀p,zH l p=true->p<d)(a:d<=e):y7 l e=y7 l d:=by
 induction a with
 |refl=>rfl
 |@step m h b=>
  rw[lV,za (fun q=>by have:=c _ q;have:d<=m:=h;omega),b]
def mH(d:Nat)(vals y:List Nat):List Nat:=(List.range 5).map fun p=>if p<d then vals.getD p 0 else y.getD p 0
theorem ig(d:Nat)(vals y:List Nat){p:Nat}(a:p<5):(mH d vals y).getD p 0=if p<d then vals.getD p 0 else y.getD p 0:=by
 simp[mH,List.getD,a]
theorem FC{T:zi}{a:Nat}{p q:zm}(h:(Rn T a (p++q)).isSome=true):(Rn T a p).isSome=true:=by
 rw[nL] at h;cases b:Rn T a p with
 |none=>rw[b] at h;cases h
 |some x=>rfl
theorem RO.mix{r:zr}{J:z9}(h:RO r Ts Ns W J d)(k:gU r)(w:dL r Ts W)(E:d<=r.vars){y:List Nat}(u:jq r Ts Ns y)(z:∀p:Nat,(p:Int)<=xu r (d:Nat)->y.getD p 0=J.ja.getD p 0):jq r Ts Ns (mH d J.ja y)/\zF r.head (mH d J.ja y)=zF r.head y:=by
 obtain⟨_,_,D,C,A⟩:=sd r (jd:=(d:Nat)) (by omega);have B:=k.vars;have m:∀{l:zu},(∀p,zH l p=true->p<r.vars)->(∀p,zH l p=true->p<d)->∀p,zH l p=true->(mH d J.ja y).getD p 0=J.ja.getD p 0:=fun g b p f=>by
  have:=g p f;rw[ig d _ _ (by omega),zc (b p f)]
 have j:∀{l:zu},(∀p,zH l p=true->p<r.vars)->(∀p,zH l p=true->p<d->(p:Int)<=xu r (d:Nat))->∀p,zH l p=true->(mH d J.ja y).getD p 0=y.getD p 0:=fun g b p f=>by
  have:=g p f;rw[ig d _ _ (by omega)];split
  ·rename_i q;exact(z p (b p f q)).symm
  ·rfl
 refine⟨⟨fun i l T g t=>⟨fun n=>(u.1 i l T g t).1 n,fun n=>?_⟩,fun x o=>?_⟩,nV _ (j k.head fun p f b=>by have:=ez r.head (jd:=((d:Nat):Int)) f (by omega);omega)⟩
 ·have a:=dT g;rcases AV (C l a) with b|b
  ·obtain⟨s,v⟩:=h.stat.some w g;have c:=h.stat.side v;rw[t] at c;simp only[zt] at c;have e:yn l (mH d J.ja y) 5=yn l J.ja d:=by
    rw[tY l (y:=J.ja) fun p _ f=>m (k.qc l a) b p f];unfold yn;rw[Hn b (by omega)]
   rw[e,c];exact(h.qi i l s g v).2.2
  ·rw[tY l (y:=y) fun p _ f=>j (k.qc l a) b p f];exact(u.1 i l T g t).2 n
 ·have a:=(List.of_mem_zip o).1;rcases AV (A x.1 a) with b|b
  ·rw[nV x.1 (m (k.qp x.1 a) b)];exact h.nob x o (Fn x.1 b)
  ·rw[nV x.1 (j (k.qp x.1 a) b)];exact u.2 x o
theorem RO.sol{r:zr}{J:z9}(h:RO r Ts Ns W J d)(c:gU r)(i:dL r Ts W)(w:d<r.vars){y:List Nat}(m:jq r Ts Ns y)(t:∀p,p<d->y.getD p 0=J.ja.getD p 0):∀x∈xa r d,(jG J x (y.getD d 0)).isSome=true:=by
 intro x n;obtain⟨l,s,g,o,b,_,_,_,_,_,f⟩:=h.hold c i n;have k:=c.vars;have v:=h.stat.side o;have j:yO l≠0:=by
  rw[fz];intro q;have:d∈y7 l 5:=(pn l 5 d).2 ⟨by omega,b⟩;rw[mo.1 q] at this;cases this
 have a:=(m.1 x.1 l s.rows g v).2 j;rw[←f];have e:yn l J.ja d++[y.getD d 0]=yn l y (d+1):=by
  have:yn l y d=yn l J.ja d:=tY l fun p u _=>t p u;unfold yn at this ⊢;rw[lV,zc b,uP,this];rfl
 rw[e,oF l y (show d+1<=5 by omega)];unfold ua at a;rw[←jt (y7 l (d+1)).length (yn l y 5)] at a;exact FC a
def pC(W:Nat):Nat->Nat
 |0=>1
 |j+1=>W*(1+pC W j)+1
def lr(W vars d f:Nat):Nat:=(W-f)*(1+pC W (vars-d-1))+1
def gP(W vars:Nat)(vals:List Nat):Nat->Nat
 |0=>0
 |d+1=>gP W vars vals d+lr W vars d (vals.getD d 0+1)
def vA(W vars d:Nat)(vals:List Nat)(f:Nat):Nat:=gP W vars vals d+if d<vars then lr W vars d f else 1
theorem CN(W vars:Nat){x y:List Nat}:∀d,(∀p,p<d->x.getD p 0=y.getD p 0)->gP W vars x d=gP W vars y d
 |0,_=>rfl
 |d+1,h=>by simp only[gP];rw[CN W vars d (fun p a=>h p (by omega)),h d (by omega)]
theorem Lc(W vars:Nat)(vals:List Nat){a b:Nat}(h:a<=b):gP W vars vals a<=gP W vars vals b:=by
 induction h with
 |refl=>exact zg _
 |step h c=>simp only[gP];omega
theorem NB{vars f v:Nat}{vals:List Nat}(a:d<vars)(c:d<vals.length)(m:f<=v)(k:v<W):vA W vars (d+1) (vals.set d v) 0<vA W vars d vals f/\vA W vars d (vals.set d v) (v+1)<vA W vars d vals f:=by
 have b:gP W vars (vals.set d v) d=gP W vars vals d:=CN W vars d fun p n=>by rw[uv,za (by omega)]
 have h:(vals.set d v).getD d 0=v:=by rw[uv,zc ⟨rfl,c⟩]
 have g:(if d+1<vars then lr W vars (d+1) 0 else 1)=pC W (vars-d-1):=by
  split
  ·obtain⟨j,e⟩:∃j,vars-d-1=j+1:=⟨vars-d-2,by omega⟩;rw[e];unfold lr;rw[show vars-(d+1)-1=j by omega,Nat.sub_zero];rfl
  ·rw[show vars-d-1=0 by omega];rfl
 have l:lr W vars d f=lr W vars d (v+1)+(v+1-f)*(1+pC W (vars-d-1)):=by
  unfold lr;rw[show W-f=(W-(v+1))+(v+1-f) by omega,fS];omega
 have i:1*(1+pC W (vars-d-1))<=(v+1-f)*(1+pC W (vars-d-1)):=gZ _ (by omega);refine⟨?_,?_⟩
 ·unfold vA;rw[zc a,g];simp only[gP];rw[b,h];omega
 ·unfold vA;rw[zc a,zc a,b];omega
theorem C0(W vars d:Nat)(vals:List Nat)(f:Nat):1<=vA W vars d vals f:=by
 unfold vA;split
 ·unfold lr;omega
 ·omega
theorem Cw{vars b f:Nat}{vals:List Nat}(g:d<=vars)(c:b<d):vA W vars b vals (vals.getD b 0+1)<vA W vars d vals f:=by
 have a:vA W vars b vals (vals.getD b 0+1)=gP W vars vals (b+1):=by
  unfold vA;rw[zc (by omega)];rfl
 have h:=Lc W vars vals (show b+1<=d by omega);have e:1<=if d<vars then lr W vars d f else 1:=by
  split
  ·unfold lr;omega
  ·omega
 rw[a];unfold vA;omega
def N9(r:zr)(Ts Ns:List zi)(W:Nat)(E:zm->Prop)(M:Nat)(a:z9):Bool->Prop
 |true=>RO r Ts Ns W a r.vars/\S7 r Ts Ns E r.vars a.ja 0/\vA W r.vars r.vars a.ja 0<=M
 |false=>(∀y,jq r Ts Ns y->E (zF r.head y))/\qY r Ts Ns a
theorem qY.ok{r:zr}{Ts Ns:List zi}{W:Nat}{J:z9}(h:qY r Ts Ns J)(c:dL r Ts W):ei J:=by
 intro i;cases b:J.qy[i]? with
 |none=>
  have:J.qy.getD i yM.zero=yM.zero:=by simp[List.getD,b]
  rw[this];intro a g;simp[yM.zero] at g
 |some s=>
  have:J.qy.getD i yM.zero=s:=by simp[List.getD,b]
  rw[this];have e:=h.side b;have j:i<r.qc.length:=by rw[←c.len];exact(jX.1 e).1
  obtain⟨⟨f,hinv⟩,_⟩:=(c.ok i _ _ (yp j) e).1;exact hinv.node
theorem IL{r:zr}(F:gU r)(I:dL r Ts W)(E:zm->Prop)(A:Nat)(hA:W*(r.qc.length+1)+r.qc.length<=A):
  ∀(n:Nat) (J:z9) (d f:Nat),RO r Ts Ns W J d->d<=r.vars->(d<r.vars->J.from.getD d 0=f)->S7 r Ts Ns E d J.ja f->vA W r.vars d J.ja f+A<n->∃L b,jn n J (d:Nat)=some (L,b)/\N9 r Ts Ns W E (vA W r.vars d J.ja f) L b:=by
 intro n;induction n with
 |zero=>intro J d f _ _ _ _ h;omega
 |succ n ih=>
  intro J d f h hd Y hL hn;have am:=F.vars;have al:=C0 W r.vars d J.ja f;unfold jn;have T:=h.stat.vars;by_cases g:d<r.vars
  ·rw[zc ⟨by omega,by rw[T];omega,by omega⟩];simp only[Int.toNat_natCast];have a:=h.stat.holdsAt (show d<5 by omega);have U:J.je.getD d []≠[]:=by
    rw[a];obtain⟨l,ad,ac⟩:=F.safe d g;obtain⟨i,hi,rfl⟩:=qk ad;intro q;have:=RX (yp hi) ac;rw[q] at this;cases this
   have ak:(xa r d).length<=r.qc.length:=by
    unfold xa;refine yc (pY _ _) ?_;simp
   have an:W*((xa r d).length+1)+(xa r d).length<=A:=by
    have:W*((xa r d).length+1)<=W*(r.qc.length+1):=mA _ (by omega);omega
   obtain⟨D,ag,a1,a2,a3⟩:=Mu W J d (J.from.getD d 0) n (by omega) (h.stat.ok I) U (by
    rw[a];intro x B;obtain⟨_,_,_,_,_,_,_,q,_⟩:=h.hold F I B;exact q) (by
    rw[a];intro x B v X;obtain⟨l,s,_,u,_,_,_,_,_,q8,_⟩:=h.hold F I B;unfold jG at X;obtain⟨b,C⟩:=mm.1 X;have:=(fc C).2;rw[show J.qy.getD x.1 yM.zero=s by simp[List.getD,u]] at this;omega) (by rw[a];omega)
   rw[a] at a3;rw[Y g] at a1 a3;rw[Y g,a1];have h1:=h.same a2;have j:D.ja=J.ja:=by rw[a2]
   have R:D.from=J.from:=by rw[a2]
   have Q:=fun x v=>Le a2 x v;cases ag with
   |none=>
    simp only;have af:D.jg.getD d 0=xu r (d:Nat):=by rw[h1.stat.jg];simp[List.getD,show d<5 by omega]
    rw[af];obtain⟨b1,b2,b3,b4,b5⟩:=sd r (jd:=((d:Nat):Int)) (by omega);have G:∀y,jq r Ts Ns y->(∀p:Nat,(p:Int)<=xu r (d:Nat)->y.getD p 0=J.ja.getD p 0)->E (zF r.head y):=by
     intro y m ha;obtain⟨m1,m2⟩:=h.mix F I hd m ha;have M:∀p,p<d->(mH d J.ja y).getD p 0=J.ja.getD p 0:=fun p o=>by rw[ig d _ _ (by omega),zc o]
     rw[←m2];rcases hL _ m1 with q|⟨_,q⟩|⟨i,k,_,O⟩
     ·exact q
     ·obtain⟨x,B,S⟩:=a3 _ q;have:=h.sol F I g m1 M x B;rw[S] at this;cases this
     ·rw[M i k] at O;omega
    by_cases aj:xu r (d:Nat)<0
    ·have ai:xu r (d:Nat)=-1:=by omega
     rw[ai];cases n with
     |zero=>omega
     |succ n=>
      refine⟨D,false,?_,?_,h1.stat⟩
      ·unfold jn;rw[za (by omega)];have:¬((-1:Int)≥(D.vars:Int)):=by omega
       simp[this]
      ·intro y m;exact G y m fun p o=>by omega
    ·obtain⟨b,C⟩:∃b:Nat,xu r (d:Nat)=(b:Int):=⟨(xu r (d:Nat)).toNat,by omega⟩;rw[C] at G b1 ⊢;have aa:b<d:=by omega
     have hM:=Cw (W:=W) (vars:=r.vars) (f:=f) (vals:=J.ja) hd aa;obtain⟨L,H,s1,t⟩:=ih D b (J.ja.getD b 0+1) (h1.back (by omega)) (by omega) (fun _=>by rw[R,h.from b aa]) (by
      rw[j];intro y m;rcases hL y m with q|⟨k,u⟩|⟨i,k,u,O⟩
      ·exact zf q
      ·exact zf (G y m fun p o=>k p (by omega))
      ·by_cases ao:i<=b
       ·refine zb ?_;by_cases V:i=b
        ·subst V;exact zf ⟨u,by omega⟩
        ·exact zb ⟨i,by omega,u,O⟩
       ·exact zf (G y m fun p o=>u p (by omega))) (by rw[j];omega)
     refine⟨L,H,s1,?_⟩;rw[j] at t;cases H with
     |true=>exact⟨t.1,t.2.1,by have:=t.2.2;omega⟩
     |false=>exact t
   |some v=>
    simp only;obtain⟨c1,c2,c3⟩:=a3;have ab:v<W:=by
     obtain⟨x,B⟩:=List.exists_mem_of_ne_nil _ (a ▸ U);obtain⟨l,s,_,u,_,_,_,_,_,q8,_⟩:=h.hold F I B;have X:=c2 x B;unfold jG at X;obtain⟨b,C⟩:=mm.1 X;have:=(fc C).2;rw[show J.qy.getD x.1 yM.zero=s by simp[List.getD,u]] at this;omega
    obtain⟨K,t2,t3,t4,t5,t6⟩:=h1.take F I g (v:=v) (fun x B=>by rw[Q];exact c2 x B) ab;rw[j] at K;have Z:d<J.ja.length:=by rw[h.stat.vlen];omega
    obtain⟨m1,m2⟩:=NB (W:=W) (vars:=r.vars) (f:=f) (vals:=J.ja) g Z c1 ab;have z:∀y,jq r Ts Ns y->(∀p,p<d->y.getD p 0=J.ja.getD p 0)->f<=y.getD d 0->v<=y.getD d 0:=by
     intro y m ha hq;false_or_by_contra
     rename_i aq;obtain⟨x,B,S⟩:=c3 (y.getD d 0) hq (by omega);have:=h.sol F I g m ha x B;rw[S] at this;cases this
    have c:∀p,p<d->(J.ja.set d v).getD p 0=J.ja.getD p 0:=fun p o=>by rw[uv,za (by omega)]
    have w:(J.ja.set d v).getD d 0=v:=by rw[uv,zc ⟨rfl,Z⟩]
    by_cases C:uH (ug D d v) (d+1)=true
    ·rw[zc C];obtain⟨x,B,hk,hm⟩:=(wI t5.stat (d+1)).1 C;rw[K] at hm;obtain⟨L,H,s1,t⟩:=ih (ug D d v) d (v+1) t5 hd (fun _=>t3) (by
      rw[K];intro y m;rcases hL y m with q|⟨k,u⟩|⟨i,k,u,O⟩
      ·exact zf q
      ·have ah:=z y m k u;by_cases P:y.getD d 0=v
       ·have:=m.2 x B;rw[nV x.1 (y:=J.ja.set d v) fun p o=>?_] at this
        ·rw[this] at hm;cases hm
        ·have ap:=sG x.1 o;by_cases N:p=d
         ·rw[N,w,P]
         ·rw[c p (by omega),k p (by omega)]
       ·exact zb (zf ⟨fun p o=>by rw[c p o];exact k p o,by omega⟩)
      ·exact zb (zb ⟨i,k,fun p o=>by rw[c p (by omega)];exact u p o,by rw[c i k];exact O⟩)) (by rw[K];omega)
     refine⟨L,H,s1,?_⟩;rw[K] at t;cases H with
     |true=>exact⟨t.1,t.2.1,by have:=t.2.2;omega⟩
     |false=>exact t
    ·rw[za C];have C:uH (ug D d v) (d+1)=false:=by simpa using C
     have e:((d:Nat):Int)+1=((d+1:Nat):Int):=by omega
     rw[e];obtain⟨L,H,s1,t⟩:=ih (ug D d v) (d+1) 0 (t6 C) (by omega) (fun _=>t4 (by omega)) (by
      rw[K];intro y m;rcases hL y m with q|⟨k,u⟩|⟨i,k,u,O⟩
      ·exact zf q
      ·have ah:=z y m k u;by_cases P:y.getD d 0=v
       ·refine zb (zf ⟨fun p o=>?_,zv _⟩);by_cases N:p=d
        ·rw[N,w,P]
        ·rw[c p (by omega)];exact k p (by omega)
       ·exact zb (zb ⟨d,by omega,fun p o=>by rw[c p o];exact k p o,by rw[w];omega⟩)
      ·exact zb (zb ⟨i,by omega,fun p o=>by rw[c p (by omega)];exact u p o,by rw[c i k];exact O⟩)) (by rw[K];omega)
     refine⟨L,H,s1,?_⟩;rw[K] at t;cases H with
     |true=>exact⟨t.1,t.2.1,by have:=t.2.2;omega⟩
     |false=>exact t
  ·have ae:d=r.vars:=by omega
   subst ae;rw[za (by rw[T];omega)];refine⟨J,true,by simp[T],h,?_,?_⟩
   ·intro y m;rcases hL y m with q|⟨k,_⟩|q
    ·exact zf q
    ·exact zb (zf ⟨k,zv _⟩)
    ·exact zb (zb q)
   ·unfold vA;rw[za g,za g];exact zg _
end
def nE(r:zr)(a Ns:List zi)(W:Nat)(E:zm->Prop)(J:z9)(M:Nat):Prop:=
 J.ql=-1/\qY r a Ns J/\(∀y,jq r a Ns y->E (zF r.head y))∨(∀(i:Nat) (T:zi),a[i]?=some T->T.count≠0)/\∃(d f:Nat),J.ql=(d:Nat)/\d<=r.vars/\RO r a Ns W J d/\(d<r.vars->J.from.getD d 0=f)/\S7 r a Ns E d J.ja f/\vA W r.vars d J.ja f<=M
theorem sp{d:Nat}(c:d≠0)(e:d<=3):yY d=d:=by unfold yY;by_cases a:d<1<;>by_cases b:d>3<;>simp[a,b]<;>omega
theorem tT.count{T:zi}{l:zu}{y:List Nat}(h:tT T l y)(f:vC T)(b:T.ql=yY (yO l))(g:l.qg.length<=3):T.count≠0:=by
 by_cases a:yO l=0
 ·exact h.1 a
 ·have d:=h.2 a;have c:=ec l 5;rw[←fz] at c;have e:=(qX T _).2 ⟨by rw[ni,←fz,b,sp a (by omega)],d⟩;have:=mB e;rw[f.cnt] at this;omega
def mZ(r:zr)(qc qp:List zi):z9:={head:=r.head,vars:=r.vars,qy:=qc.map (fun T=>⟨T,[0,0,0]⟩),bars:=(r.qp.zip qp).map (fun x=>⟨x.1,uQ x.1,x.2⟩),je:=(List.range 5).map (xa r),jg:=(List.range 5).map (fun p=>xu r (p:Nat)),last:=xu r r.vars,ja:=[0,0,0,0,0],«from»:=[0,0,0,0,0],ql:=if qc.any (fun T=>T.count == 0) then -1 else 0,jf:=0}
theorem JC(r:zr)(a Ns:List zi):xx r a Ns=if uH (mZ r a Ns) 0 then{mZ r a Ns with ql:=-1} else mZ r a Ns:=rfl
theorem oN(r:zr)(a Ns:List zi):∃c,xx r a Ns={mZ r a Ns with ql:=c}/\c=if uH (xx r a Ns) 0=true then -1 else if a.any (fun T=>T.count == 0)=true then -1 else 0:=by
 have d:∀c:Int,uH {mZ r a Ns with ql:=c} 0=uH (mZ r a Ns) 0:=fun _=>rfl;rw[JC];by_cases b:uH (mZ r a Ns) 0=true
 ·rw[zc b];exact⟨-1,rfl,by rw[d,zc b]⟩
 ·rw[za b];exact⟨_,rfl,by rw[za b]⟩
theorem Gi(r:zr)(a Ns:List zi):qY r a Ns (xx r a Ns)/\(xx r a Ns).ja=[0,0,0,0,0]/\(xx r a Ns).from=[0,0,0,0,0]/\(xx r a Ns).qy=a.map (fun T=>⟨T,[0,0,0]⟩):=by
 obtain⟨b,h,_⟩:=oN r a Ns;rw[h];exact⟨⟨rfl,rfl,rfl,rfl,rfl,rfl,by simp[mZ,Function.comp_def],rfl,rfl⟩,rfl,rfl,rfl⟩
theorem PB{r:zr}{b Ns:List zi}{W:Nat}(I:gU r)(C:dL r b W)(E:zm->Prop):nE r b Ns W E (xx r b Ns) (vA W r.vars 0 [] 0):=by
 obtain⟨c,J,A,B⟩:=Gi r b Ns;have d:(∃(i:Nat) (T:zi),b[i]?=some T/\T.count=0)->∀y,¬jq r b Ns y:=by
  rintro⟨i,T,g,j⟩ y f;have o:i<r.qc.length:=by rw[←C.len];exact(jX.1 g).1
  have t:=yp o;obtain⟨F,H,_⟩:=C.ok i _ T t g;exact(f.1 i _ T t g).count F H (I.qg _ (dT t)) j
 have e:uH (xx r b Ns) 0=true->∀y,¬jq r b Ns y:=by
  intro h y f;obtain⟨x,z,u,v⟩:=(wI c 0).1 h;have:=f.2 x z;rw[nV x.1 (y:=(xx r b Ns).ja) fun p n=>by have:=sG x.1 n;omega] at this;rw[this] at v;cases v
 have a:(xx r b Ns).ql=if uH (xx r b Ns) 0=true then -1 else if b.any (fun T=>T.count == 0)=true then -1 else 0:=by
  obtain⟨K,g,j⟩:=oN r b Ns;rw[←j,g]
 by_cases h:uH (xx r b Ns) 0=true
 ·left;rw[zc h] at a;exact⟨a,c,fun y f=>zC f (e h y)⟩
 ·rw[za h] at a;by_cases q:b.any (fun T=>T.count == 0)=true
  ·left;rw[zc q] at a;refine⟨a,c,fun y f=>zC f (d ?_ y)⟩;obtain⟨T,g,j⟩:=gM.1 q;obtain⟨i,o,rfl⟩:=qk g;exact⟨i,_,yp o,by simpa using j⟩
  ·right;rw[za q] at a;refine⟨fun i T D G=>q (gM.2 ⟨T,dT D,by simp[G]⟩),0,0,a,zv _,⟨c,fun i l s t w=>?_,fun x z u=>?_,fun i o=>by omega,fun i o=>by omega⟩,fun _=>by rw[A];rfl,fun y _=>zb (zf ⟨fun p n=>by omega,zv _⟩),?_⟩
   ·rw[B] at w;simp only[lK,vM] at w;obtain⟨T,D,rfl⟩:=w;have n:yn l (xx r b Ns).ja 0=[]:=rfl;refine⟨rfl,fun k u L=>?_,by rw[n];rfl⟩;have:k=0:=by simp[y7] at u;exact u
    subst this;rw[n];rfl
   ·cases v:uq x.2 (zF x.1 (xx r b Ns).ja) with
    |none=>rfl
    |some m=>exact zC ((wI c 0).2 ⟨x,z,by omega,by rw[v];rfl⟩) h
   ·unfold vA;exact zg _
theorem OU{r:zr}{v Ns:List zi}{W:Nat}(D:gU r)(P:dL r v W)(E:zm->Prop)(A:Nat)(hA:W*(r.qc.length+1)+r.qc.length<=A)(n:Nat)(J:z9)(M:Nat)(h:nE r v Ns W E J M)(hn:M+A+1<n):
  ∃c b,f5 n J=some (c,b)/\(b=false->∀y,jq r v Ns y->E (zF r.head y))/\(b=true->jq r v Ns c.ja/\c.head=r.head/\∃Y,Y<M/\nE r v Ns W (fun x=>E x∨x=zF r.head c.ja) c Y):=by
 unfold f5;rcases h with⟨F,R,K⟩|⟨t,d,f,F,R,K,h4,h5,h6⟩
 ·rw[F];obtain⟨k,rfl⟩:∃k,n=k+1:=⟨n-1,by omega⟩;refine⟨{J with ql:=-1},false,?_,fun _=>K,fun q=>by cases q⟩;unfold jn;have:¬((-1:Int)≥(J.vars:Int)):=by omega
  simp[this]
 ·rw[F];obtain⟨c,b,s1,Q⟩:=IL D P E A hA n J d f K R h4 h5 (by omega);rw[s1];simp only;cases b with
  |false=>exact⟨_,false,rfl,fun _=>Q.1,fun q=>by cases q⟩
  |true=>
   obtain⟨e,t2,t3⟩:=Q;have H:=D.vars;have B:jq r v Ns c.ja:=by
    refine⟨fun i l T G U=>⟨fun _=>t i T U,fun _=>?_⟩,fun x O=>?_⟩
    ·obtain⟨s,N⟩:=e.stat.some P G;have j:=e.stat.side N;rw[U] at j;simp only[zt] at j;rw[IB H (D.qc l (dT G)),j];exact(e.qi i l s G N).2.2
    ·exact e.nob x O (Fn x.1 (D.qp x.1 (List.of_mem_zip O).1))
   refine⟨_,true,rfl,fun q=>(by cases q),fun _=>⟨B,e.stat.head,?_⟩⟩;obtain⟨b1,b2,b3,_,_⟩:=sd r (jd:=((r.vars:Nat):Int)) (by omega);have m:=e.stat.last;have u:∀y,(∀p:Nat,(p:Int)<=xu r (r.vars:Nat)->y.getD p 0=c.ja.getD p 0)->zF r.head y=zF r.head c.ja:=fun y ha=>nV r.head fun p z=>ha p (by
    have F:=D.head p z;have:=ez r.head (jd:=((r.vars:Nat):Int)) z (by omega);omega)
   have g:qY r v Ns {c with ql:=c.last}:=⟨e.stat.head,e.stat.vars,e.stat.je,e.stat.jg,e.stat.last,e.stat.bars,e.stat.qy,e.stat.vlen,e.stat.flen⟩;have V:=C0 W r.vars d J.ja f;by_cases S:xu r (r.vars:Nat)<0
   ·refine⟨M-1,by omega,zf ⟨by show c.last=-1;rw[m];omega,g,fun y X=>?_⟩⟩;exact zb (u y fun p z=>by omega)
   ·obtain⟨o,Z⟩:∃b:Nat,xu r (r.vars:Nat)=(b:Int):=⟨(xu r (r.vars:Nat)).toNat,by omega⟩;have C:o<r.vars:=by omega
    have hM:=Cw (W:=W) (vars:=r.vars) (f:=0) (vals:=c.ja) (zg _) C;have a:=e.back (b:=o) (by omega);refine⟨vA W r.vars o c.ja (c.ja.getD o 0+1),by omega,zb ⟨t,o,c.ja.getD o 0+1,by show c.last=_;rw[m,Z],by omega,⟨g,a.qi,a.nob,a.from,a.small⟩,fun _=>e.from o C,fun y X=>?_,zg _⟩⟩;rcases t2 y X with q|⟨L,_⟩|⟨i,L,I,q3⟩
    ·exact zf (zf q)
    ·exact zf (zb (u y fun p z=>L p (by omega)))
    ·by_cases aa:i<=o
     ·refine zb ?_;by_cases w:i=o
      ·subst w;exact zf ⟨I,by omega⟩
      ·exact zb ⟨i,by omega,I,q3⟩
     ·exact zf (zb (u y fun p z=>I p (by omega)))
section
variable {l:zu}{a W:Nat}{row:zm}
structure qT (l:zu) (a W:Nat):Prop where
 len:l.qg.length=a
 le3:a<=3
 lev:∀t∈l.qg,t.var=true->t.num<5/\yQ l t.num=some t.level
 con:∀t∈l.qg,t.var=false->t.num<W
def QP(a:Nat)(row:zm):Prop:=row.length=3/\∀i,a<=i->row.getD i 0=0
theorem iD(l:zu)(y:List Nat){i:Nat}(b:i<3):(zF l y).getD i 0=Q9 l y i:=by
 match i,b with
 |0,_=>rfl
 |1,_=>rfl
 |2,_=>rfl
theorem sw(h:qT l a W)(y:List Nat):QP a (zF l y):=by
 refine⟨rfl,fun i c=>?_⟩;by_cases b:i<3
 ·rw[iD l y b];unfold Q9;rw[za (by rw[h.len];omega)]
 ·simp[List.getD,zF];rw[kV (by simp;omega)];rfl
theorem CX{x y:zm}(c:QP a x)(d:QP a y)(h:∀i,i<a->i<3->x.getD i 0=y.getD i 0):x=y:=by
 refine kX (by rw[c.1,d.1]) fun i b f=>?_;have e:x.getD i 0=y.getD i 0:=by
  by_cases g:i<a
  ·exact h i g (by rw[c.1] at b;exact b)
  ·rw[c.2 i (by omega),d.2 i (by omega)]
 simpa [List.getD,b,f] using e
theorem KU{p d:Nat}(c:zH l p=true)(e:p<d):(y7 l d)[(y7 l p).length]?=some p:=by
 obtain⟨t,b⟩:=eb l (show p+1<=d by omega);rw[←b,lV,zc c];simp
theorem sF{p j:Nat}(h:yQ l p=some j)(c:p<5):(y7 l 5)[j]?=some p:=by
 rw[eX] at h;split at h
 ·rename_i b;simp only[zt] at h;subst h;exact KU b c
 ·cases h
theorem eo{p j:Nat}(h:yQ l p=some j)(b:p<5):j<yO l:=by
 have:=sF h b;rw[fz];exact(jX.1 this).1
theorem oB(h:qT l a W):yO l<=3:=by
 have:=ec l 5;rw[fz];have:=h.len;have:=h.le3;omega
theorem qT.leveled{l:zu}{a W:Nat}(h:qT l a W){t:zZ}(b:t∈l.qg):leveled t=t.var:=by
 unfold Go.Proofs.YteampbddflhngaaGreat.leveled;cases c:t.var with
 |false=>rfl
 |true=>
  obtain⟨d,e⟩:=h.lev t b c;have:=eo e d;have:=oB h;simp;omega
theorem pM(l:zu)(row f:zm)(i:Nat):(qS l row f i).length=f.length:=by unfold qS;split<;>simp
theorem rp(l:zu)(row:zm):(ul l row).length=3:=by unfold ul;rw[pM,pM,pM];rfl
theorem i7{g:Nat->Nat}(v:∀i (d:i<l.qg.length),leveled l.qg[i]=true->row.getD i 0=g l.qg[i].level){f:zm}{m:Nat}(u:f.length=3)
  (w:∀j,j<3->(f.getD j 0=g j∨f.getD j 0=0)/\((∃i,∃d:i<l.qg.length,i<m/\leveled l.qg[i]=true/\l.qg[i].level=j)->f.getD j 0=g j)/\((¬∃i,∃d:i<l.qg.length,leveled l.qg[i]=true/\l.qg[i].level=j)->f.getD j 0=0)):
  ∀j,j<3->((qS l row f m).getD j 0=g j∨(qS l row f m).getD j 0=0)/\((∃i,∃d:i<l.qg.length,i<m+1/\leveled l.qg[i]=true/\l.qg[i].level=j)->(qS l row f m).getD j 0=g j)/\((¬∃i,∃d:i<l.qg.length,leveled l.qg[i]=true/\l.qg[i].level=j)->(qS l row f m).getD j 0=0):=by
 intro j r;obtain⟨o,p,s⟩:=w j r;unfold qS;by_cases c:m<l.qg.length/\leveled (l.qg.getD m ⟨false,0,0⟩)=true
 ·rw[zc c];have e:l.qg.getD m ⟨false,0,0⟩=l.qg[m]'c.1:=by simp[List.getD,c.1]
  rw[e] at c ⊢;rw[uv];by_cases b:l.qg[m].level=j/\l.qg[m].level<f.length
  ·rw[zc b];have:=v m c.1 c.2;rw[b.1] at this;exact⟨zf this,fun _=>this,fun q=>zC ⟨m,c.1,c.2,b.1⟩ q⟩
  ·rw[za b];refine⟨o,?_,s⟩;rintro⟨i,d,t,n,k⟩;by_cases h:i=m
   ·subst h;exact zC ⟨k,by rw[k,u];exact r⟩ b
   ·exact p ⟨i,d,by omega,n,k⟩
 ·rw[za c];refine⟨o,?_,s⟩;rintro⟨i,d,t,n,k⟩;by_cases h:i=m
  ·subst h;exact zC ⟨d,by simpa [List.getD,d] using n⟩ c
  ·exact p ⟨i,d,by omega,n,k⟩
theorem OX(h:qT l a W){g:Nat->Nat}(c:∀i (b:i<l.qg.length),leveled l.qg[i]=true->row.getD i 0=g l.qg[i].level)(j:Nat)(d:j<3):((∃i,∃b:i<l.qg.length,leveled l.qg[i]=true/\l.qg[i].level=j)->(ul l row).getD j 0=g j)/\((¬∃i,∃b:i<l.qg.length,leveled l.qg[i]=true/\l.qg[i].level=j)->(ul l row).getD j 0=0):=by
 have k:∀j,j<3->((([0,0,0]:zm).getD j 0=g j∨([0,0,0]:zm).getD j 0=0)/\((∃i,∃b:i<l.qg.length,i<0/\leveled l.qg[i]=true/\l.qg[i].level=j)->([0,0,0]:zm).getD j 0=g j)/\((¬∃i,∃b:i<l.qg.length,leveled l.qg[i]=true/\l.qg[i].level=j)->([0,0,0]:zm).getD j 0=0)):=by
  intro j d;have e:([0,0,0]:zm).getD j 0=0:=by
   match j,d with
   |0,_=>rfl
   |1,_=>rfl
   |2,_=>rfl
  exact⟨zb e,fun⟨i,_,q,_⟩=>by omega,fun _=>e⟩
 have r:=i7 c rfl k;have o:=i7 c (by rw[pM];rfl) r;have p:=i7 c (by rw[pM,pM];rfl) o;obtain⟨_,f,s⟩:=p j d;refine⟨fun⟨i,b,m,n⟩=>f ⟨i,b,?_,m,n⟩,s⟩;have:=h.len;have:=h.le3;omega
theorem Ay(h:qT l a W){f:zm}:x9 l row=some f↔f=ul l row/\∀i (b:i<l.qg.length),jy l.qg[i] (row.getD i 0) (ul l row)=true:=by
 have c:(xw l row (ul l row) 0&&xw l row (ul l row) 1&&xw l row (ul l row) 2)=true↔∀i (b:i<l.qg.length),jy l.qg[i] (row.getD i 0) (ul l row)=true:=by
  have g:∀i,xw l row (ul l row) i=true↔∀b:i<l.qg.length,jy l.qg[i] (row.getD i 0) (ul l row)=true:=by
   intro i;unfold xw;simp only[dX,decide_eq_true_eq];constructor
   ·rintro(q|q) b
    ·omega
    ·simpa [List.getD,b] using q
   ·intro q;by_cases b:i<l.qg.length
    ·exact zb (by simpa [List.getD,b] using q b)
    ·exact zf (by omega)
  simp only[uw,g];constructor
  ·rintro⟨⟨k,j⟩,m⟩ i b;have:=h.len;have:=h.le3;have e:i=0∨i=1∨i=2:=by omega
   rcases e with rfl|rfl|rfl
   ·exact k b
   ·exact j b
   ·exact m b
  ·intro q;exact⟨⟨fun b=>q 0 b,fun b=>q 1 b⟩,fun b=>q 2 b⟩
 unfold x9;by_cases d:(xw l row (ul l row) 0&&xw l row (ul l row) 1&&xw l row (ul l row) 2)=true
 ·rw[zc d];simp only[zt];exact⟨fun q=>⟨q.symm,c.1 d⟩,fun q=>q.1.symm⟩
 ·rw[za d];constructor
  ·intro q;cases q
  ·intro q;exact zC (c.2 q.2) d
theorem Jd{l:List Nat}(h:l.Nodup){i j:Nat}(d:i<l.length)(b:j<l.length)(e:l[i]=l[j]):i=j:=by
 have c:=sK.1 h;rcases pD i j with q|q|q
 ·exact zC e (c i j d b q)
 ·exact q
 ·exact zC e.symm (c j i b d q)
theorem Ho(h:qT l a W)(y:List Nat):∃f,x9 l (zF l y)=some f/\f.length=3/\f.take (yO l)=yn l y 5/\∀j,yO l<=j->f.getD j 0=0:=by
 have p:∀i (b:i<l.qg.length),(zF l y).getD i 0=RU l.qg[i] y:=fun i b=>by
  have:=h.len;have:=h.le3;rw[iD l y (by omega)];unfold Q9;simp[List.getD,b]
 have x:∀i (b:i<l.qg.length),leveled l.qg[i]=true->(zF l y).getD i 0=(yn l y 5).getD l.qg[i].level 0:=fun i b c=>by
  have n:=zs b;rw[h.leveled n] at c;obtain⟨s,m⟩:=h.lev _ n c;rw[p i b];unfold RU;rw[zc (by simp[c,s])];have:=sF m s;unfold yn;simp[List.getD,this]
 have q:=fun j d=>OX h (row:=zF l y) (g:=fun j=>(yn l y 5).getD j 0) x j d;have r:∀i (b:i<l.qg.length),leveled l.qg[i]=true->l.qg[i].level<yO l:=fun i b c=>by
  have n:=zs b;rw[h.leveled n] at c;obtain⟨s,m⟩:=h.lev _ n c;exact eo m s
 have A:=oB h;have o:∀j,yO l<=j->(ul l (zF l y)).getD j 0=0:=fun j d=>by
  by_cases H:j<3
  ·exact(q j H).2 fun⟨i,b,z,J⟩=>by have:=r i b z;omega
  ·have:=rp l (zF l y);simp[List.getD,List.getElem?_eq_none (show(ul l (zF l y)).length<=j by omega)]
 have k:∀j,j<yO l->(ul l (zF l y)).getD j 0=(yn l y 5).getD j 0:=fun j d=>by
  refine(q j (by omega)).1 ?_;rw[fz] at d;have D:=zs d;obtain⟨I,E⟩:=(pn l 5 _).1 D;obtain⟨t,v,w,F⟩:=(hY l _).1 E;obtain⟨i,b,rfl⟩:=qk v;refine⟨i,b,by rw[h.leveled v];exact w,?_⟩;obtain⟨C,G⟩:=h.lev _ v w;have:=sF G C;rw[F] at this;obtain⟨B,e⟩:=jX.1 this;exact Jd (List.nodup_range.filter _:(y7 l 5).Nodup) B d e
 refine⟨ul l (zF l y),(Ay h).2 ⟨rfl,fun i b=>?_⟩,rp _ _,?_,o⟩
 ·unfold jy;have n:=zs b;cases c:leveled l.qg[i] with
  |true=>
   rw[zc rfl,k _ (r i b c),x i b c];simp
  |false=>
   rw[za (by simp),p i b];rw[h.leveled n] at c;unfold RU;rw[za (by simp[c])];simp
 ·refine kX (by rw[qC,rp,ni,←fz];omega) fun j s m=>?_;have d:j<yO l:=by rw[ni,←fz] at m;exact m
  have:=k j d;have u:j<(ul l (zF l y)).length:=by rw[rp];omega
  simp only[List.getD,yp u,yp m,ux] at this;rw[List.getElem_take];exact this
theorem Cd(h:qT l a W){f:zm}(t:QP a row)(p:x9 l row=some f)(y:List Nat)(q:f.take (yO l)=yn l y 5):row=zF l y:=by
 obtain⟨rfl,k⟩:=(Ay h).1 p;refine CX t (sw h y) fun i r s=>?_;have c:i<l.qg.length:=by rw[h.len];exact r
 have b:=zs c;have d:=k i c;rw[iD l y s];unfold Q9;rw[zc c,show l.qg.getD i ⟨false,0,0⟩=l.qg[i] by simp[List.getD,c]];unfold jy at d;unfold RU;cases g:leveled l.qg[i] with
 |true=>
  rw[g,zc rfl] at d;rw[h.leveled b] at g;obtain⟨m,o⟩:=h.lev _ b g;rw[zc (by simp[g,m])];have j:=eo o m;have n:=sF o m;have e:(ul l row).getD l.qg[i].level 0=((ul l row).take (yO l)).getD l.qg[i].level 0:=by
   simp[List.getD,j]
  rw[e,q] at d;unfold yn at d;simp only[List.getD,lK,n,jA,ux,beq_iff_eq] at d;exact d.symm
 |false=>
  rw[g,za (by simp)] at d;rw[h.leveled b] at g;rw[za (by simp[g])];exact(by simpa using d:l.qg[i].num=row.getD i 0).symm
end
section
variable {W:Nat}{row:zm}{l:zu}{T:zi}
def Rc(W:Nat)(row:zm):Prop:=∀v∈row,v<W
theorem Hb(h:Rc W row)(b:0<W)(i:Nat):row.getD i 0<W:=by
 by_cases a:i<row.length
 ·rw[show row.getD i 0=row[i] by simp[List.getD,a]];exact h _ (zs a)
 ·rw[show row.getD i 0=0 by simp[List.getD,a]];exact b
theorem iu{f:zm}(c:0<W)(d:Rc W row)(a:Rc W f)(i:Nat):Rc W (qS l row f i):=by
 unfold qS;split
 ·intro v b;rcases pG b with q|q
  ·exact a v q
  ·rw[q];exact Hb d c i
 ·exact a
theorem Kn{f:zm}(b:0<W)(c:Rc W row)(a:x9 l row=some f):f.length=3/\Rc W f:=by
 unfold x9 at a;split at a
 ·simp only[zt] at a;rw[←a];refine⟨rp l row,?_⟩;unfold ul;have e:Rc W [0,0,0]:=by intro v d;simp at d;omega
  exact iu b c (iu b c (iu b c e 0) 1) 2
 ·cases a
theorem BC(T:zi)(row:zm):fW T row=true↔Rc T.qf row:=by simp[fW,Rc]
theorem iM:∀(rs:List zm) (T:zi),vC T->(∀r∈rs,r.length=3/\Rc T.qf r)->T.count+rs.length<=9000000->∃a,xz rs T=some a/\vC a/\a.qf=T.qf/\a.ql=T.ql/\a.count<=T.count+rs.length/\∀k,k.length=T.ql->((ua a k).isSome=true↔(ua T k).isSome=true∨∃r∈rs,r.take T.ql=k)
 |[],T,h,_,_=>⟨T,rfl,h,rfl,rfl,by simp,fun k _=>by simp⟩
 |r::rs,T,h,m,A=>by
  simp only[xi] at A;obtain⟨C,v⟩:=m r (by simp);obtain⟨p,i,d,D,z,s,u⟩:=h.add r 0 C ((BC T r).2 v);have g:(addP T r 0).1.count<=T.count+1:=by
   cases f:(addP T r 0).2 with
   |false=>rw[z f];omega
   |true=>rw[s f];exact zg _
  obtain⟨a,t,B,n,y,E,w⟩:=iM rs (addP T r 0).1 p (fun x o=>by rw[i];exact m x (by simp[o])) (by omega);unfold xz;rw[zc (h.okT (by omega))];refine⟨a,t,B,by rw[n,i],by rw[y,d],by simp only[xi];omega,fun k j=>?_⟩;rw[w k (by rw[d];exact j),u k j,d];by_cases e:k=r.take T.ql
  ·subst e;simp
  ·rw[za e];constructor
   ·rintro(q|⟨x,b,c⟩)
    ·exact zf q
    ·exact zb ⟨x,by simp[b],c⟩
   ·rintro(q|⟨x,b,c⟩)
    ·exact zf q
    ·rcases zx.1 b with rfl|b
     ·exact zC c.symm e
     ·exact zb ⟨x,b,c⟩
structure uU (T:zi) (l:zu) (W:Nat) (P:zm->Prop):Prop where
 ok:vC T
 qf:T.qf=W
 ql:T.ql=yY (yO l)
 sem:∀k,k.length=T.ql->((ua T k).isSome=true↔∃row f,P row/\x9 l row=some f/\f.take T.ql=k)
theorem uU.congr{P Q:zm->Prop}(h:uU T l W P)(e:∀x,P x↔Q x):uU T l W Q:=
 ⟨h.ok,h.qf,h.ql,fun k a=>by rw[h.sem k a];exact⟨fun⟨r,f,q⟩=>⟨r,f,(e r).1 q.1,q.2⟩,fun⟨r,f,q⟩=>⟨r,f,(e r).2 q.1,q.2⟩⟩⟩
theorem uU.new(l:zu)(w W:Nat)(b:W=zM w):uU (yU w (yO l)) l W (fun _=>False):=by
 refine⟨vC.new _ _,by rw[Cc,b],pp _ _,fun k a=>?_⟩;constructor
 ·intro q;rw[sR _ _ k (by rintro rfl;have:=(fX (yO l)).1;rw[pp] at a;simp at a;omega)] at q;cases q
 ·rintro⟨_,_,q,_⟩;exact q.elim
theorem uU.adds{P:zm->Prop}(h:uU T l W P)(p:0<W)(a:List zm)(hs:∀r∈a,Rc W r)(v:T.count+a.length<=9000000):∃d,xz (a.filterMap (x9 l)) T=some d/\uU d l W (fun x=>P x∨x∈a)/\d.count<=T.count+a.length:=by
 have n:(a.filterMap (x9 l)).length<=a.length:=pY _ _;obtain⟨d,q,t,o,i,w,s⟩:=iM (a.filterMap (x9 l)) T h.ok (fun r u=>by
  obtain⟨x,j,g⟩:=mQ.1 u;rw[h.qf];exact Kn p (hs x j) g) (by omega)
 refine⟨d,q,⟨t,by rw[o,h.qf],by rw[i,h.ql],fun k m=>?_⟩,by omega⟩;rw[i] at m;rw[s k m,h.sem k m,i];constructor
 ·rintro(⟨r,f,b,c,e⟩|⟨f,b,c⟩)
  ·exact⟨r,f,zf b,c,e⟩
  ·obtain⟨x,j,g⟩:=mQ.1 b;exact⟨x,f,zb j,g,c⟩
 ·rintro⟨r,f,b|b,c,e⟩
  ·exact zf ⟨r,f,b,c,e⟩
  ·exact zb ⟨f,mQ.2 ⟨r,b,c⟩,e⟩
theorem CO{k:zm}{d:Nat}(h:k.length=d)(a:d<=3):(RN k d).length=3:=by simp[RN,h];omega
theorem se{k:zm}{d:Nat}(h:k.length=d):(RN k d).take d=k:=by simp[RN,←h]
theorem Db{k:zm}{d:Nat}(b:0<W)(h:Rc W k):Rc W (RN k d):=by
 intro v a;unfold RN at a;rcases zI.1 a with q|q
 ·exact h v q
 ·have:=dQ q;simp at this;omega
theorem uU.join{U:zi}{P Q:zm->Prop}(h:uU T l W P)(k:uU U l W Q)(p:0<W)(E:T.count+U.count<=9000000):∃c,xz ((Rj U).map fun x=>RN x U.ql) T=some c/\uU c l W (fun x=>P x∨Q x)/\c.count<=T.count+U.count:=by
 have d:U.ql=T.ql:=by rw[h.ql,k.ql]
 have u:T.ql<=3:=by rw[h.ql];exact(fX _).2
 obtain⟨c,q,w,n,g,C,s⟩:=iM ((Rj U).map fun x=>RN x U.ql) T h.ok (fun r D=>by
  obtain⟨x,i,rfl⟩:=z7.1 D;obtain⟨a,b⟩:=(qX U x).1 i;refine⟨CO a (by omega),?_⟩;rw[h.qf];refine Db p ?_;intro v o;have:=tP x 0 b v o;rw[k.qf] at this;exact this) (by simp[k.ok.cnt];omega)
 refine⟨c,q,⟨w,by rw[n,h.qf],by rw[g,h.ql],fun y j=>?_⟩,by simpa [k.ok.cnt] using C⟩;rw[g] at j;rw[s y j,h.sem y j,g];constructor
 ·rintro(⟨r,f,a,b,e⟩|⟨r,a,b⟩)
  ·exact⟨r,f,zf a,b,e⟩
  ·obtain⟨x,i,rfl⟩:=z7.1 a;obtain⟨m,z⟩:=(qX U x).1 i;rw[←d,se m] at b;subst b;obtain⟨r,f,B,t,A⟩:=(k.sem x m).1 z;exact⟨r,f,zb B,t,by rw[←d];exact A⟩
 ·rintro⟨r,f,a|a,b,e⟩
  ·exact zf ⟨r,f,a,b,e⟩
  ·refine zb ⟨RN y U.ql,z7.2 ⟨y,(qX U y).2 ⟨by omega,(k.sem y (by omega)).2 ⟨r,f,a,b,by rw[d];exact e⟩⟩,rfl⟩,?_⟩;rw[←d,se (by omega)]
theorem uU.sat{a E:Nat}{P:zm->Prop}(h:uU T l W P)(j:qT l a E)(v:∀x,P x->QP a x)(y:List Nat):tT T l y↔P (zF l y):=by
 obtain⟨f,w,u,D,G⟩:=Ho j y;have o:=oB j;by_cases b:yO l=0
 ·have i:T.ql=1:=by rw[h.ql,b];rfl
  have A:yn l y 5=[]:=mo.1 (by rw[ni,←fz];exact b);constructor
  ·intro m;have p:=m.1 b;rw[←h.ok.cnt] at p;obtain⟨k,z⟩:=List.exists_mem_of_length_pos (Nat.pos_of_ne_zero p);obtain⟨C,B⟩:=(qX T k).1 z;obtain⟨r,g,d,s,t⟩:=(h.sem k C).1 B;have:=Cd j (v r d) s y (by rw[b,A];rfl);rw[←this];exact d
  ·intro c;refine⟨fun _ p=>?_,fun q=>zC b q⟩;have:(ua T (f.take T.ql)).isSome=true:=(h.sem _ (by rw[qC,u,i];rfl)).2 ⟨_,f,c,w,rfl⟩;have F:=(qX T _).2 ⟨by rw[qC,u,i];rfl,this⟩;have:=mB F;rw[h.ok.cnt] at this;omega
 ·have n:T.ql=yO l:=by rw[h.ql,sp b o]
  have e:(yn l y 5).length=T.ql:=by rw[ni,←fz,n]
  constructor
  ·intro m;obtain⟨r,g,d,s,t⟩:=(h.sem _ e).1 (m.2 b);rw[n] at t;have:=Cd j (v r d) s y t;rw[←this];exact d
  ·intro c;exact⟨fun q=>zC q b,fun _=>(h.sem _ e).2 ⟨_,f,c,w,by rw[n];exact D⟩⟩
structure n9 (V:y6) (l:zu) (W:Nat) (P0 P1:zm->Prop) (Pf:zm->Prop) (c:Nat):Prop where
 lit:V.lit=l
 before:uU V.before l W P0
 qo:uU V.qo l W Pf
 all:uU V.all l W P1
 few:V.before.count+V.qo.count<=c/\V.all.count<=c
theorem BB{V:y6}{w:Nat}{j n k:zm->Prop}{c:Nat}(h:n9 V l W j n k c)(i:W=zM w)(d:List zm)(hs:∀r∈d,Rc W r)(D:c+d.length<=1048576)(e:Nat)(o:3*(W+1)<=e):∃m,dM e w V d=some m/\n9 m l W (fun x=>j x∨k x) (fun x=>n x∨x∈d) (fun x=>x∈d) (c+d.length):=by
 have g:0<W:=by rw[i];unfold zM;split<;>omega
 have y:=h.qo.ok.rowsG e (by rw[h.qo.qf];exact o) (by have:=h.few.1;omega);obtain⟨b,q,v,A⟩:=h.before.join h.qo g (by have:=h.few.1;omega);obtain⟨f,s,p,C⟩:=(uU.new l w W i).adds g d hs (by simp[yU,yv];omega);obtain⟨a,t,u,z⟩:=h.all.adds g d hs (by have:=h.few.2;omega);refine⟨{V with before:=b,qo:=f,all:=a},?_,h.lit,v,p.congr (fun x=>by simp),u,?_⟩
 ·unfold dM;rw[y,h.lit];simp only[q,s,t]
 ·have F:=h.few.1;have B:=h.few.2;have E:(yU w (yO l)).count=0:=rfl;simp only;omega
end
section
open Classical
abbrev DB:=Nat->zm->Option Nat
noncomputable def zyl(ar:List Nat)(R:zy):DB:=fun p row=>if p<ar.length/\QP (ar.getD p 0) row then uq (R.rows.getD p zi.zero) row else none
structure jp (ar:List Nat) (W:Nat) (R:zy):Prop where
 len:R.rows.length=ar.length
 tries:∀p (hp:p<R.rows.length),vC R.rows[p]/\R.rows[p].qf=W/\R.rows[p].ql=yY (ar.getD p 0)/\∀k∈Rj R.rows[p],QP (ar.getD p 0) (RN k R.rows[p].ql)
 cnt:R.count=(R.rows.map (·.count)).sum
theorem Oz(l:List zi):∀(p:Nat) (T:zi) (b:p<l.length),((l.set p T).map (·.count)).sum+l[p].count=(l.map (·.count)).sum+T.count:=by
 induction l with
 |nil=>intro p T b;simp at b
 |cons a l c=>
  intro p T b;cases p with
  |zero=>simp;omega
  |succ p=>
   have:=c p T (by simpa using b);simp at this ⊢;omega
theorem eA(l:List zi):∀(p:Nat) (b:p<l.length),l[p].count<=(l.map (·.count)).sum:=by
 induction l with
 |nil=>intro p b;simp at b
 |cons a l c=>
  intro p b;cases p with
  |zero=>simp
  |succ p=>
   have:=c p (by simpa using b);simp at this ⊢;omega
theorem GU{a:Nat}(b:a<=3){x y:zm}(d:QP a x)(c:QP a y)(e:x.take (yY a)=y.take (yY a)):x=y:=by
 refine CX d c fun i g h=>?_;have f:i<yY a:=by rw[sp (by omega) b];exact g
 have:=congrArg (fun l=>l.getD i 0) e;simpa [List.getD,List.getElem?_take,f] using this
theorem BI{a:Nat}(m:a<=3){x:zm}(e:QP a x):RN (x.take (yY a)) (yY a)=x:=by
 have h:a<=yY a:=by
  by_cases k:a=0
  ·omega
  ·rw[sp k m];exact zg _
 show x.take (yY a)++([0,0,0]:zm).drop (yY a)=x;have b:=e.1;refine kX (by simp[b];omega) fun i o l=>?_;have f:=fun i (n:yY a<=i)=>e.2 i (by omega);by_cases n:i<yY a
 ·rw[vu (by simp[b];omega)];simp
 ·rw[mX (by simp;omega)];have g:x[i]=0:=by have:=f i (by omega);simpa [List.getD,l] using this
  rw[g];simp only[List.getElem_drop];have:∀j (d:j<([0,0,0]:List Nat).length),([0,0,0]:List Nat)[j]=0:=by
   intro j d;have c:j=0∨j=1∨j=2:=by simp at d;omega
   rcases c with rfl|rfl|rfl<;>rfl
  exact this _ _
structure R0 (ar:List Nat) (W k:Nat) (D0:DB) (c0:List Nat) (R:zy):Prop where
 inv:jp ar W R
 qw:R.qw=k
 flen:R.qo.length=ar.length
 qo:∀p (hp:p<R.qo.length),R.qo[p].Nodup/\∀row∈R.qo[p],QP (ar.getD p 0) row/\Rc W row/\D0 p row=none
 abs:∀p row,zyl ar R p row=match D0 p row with
  |some m=>some m
  |none=>if row∈R.qo.getD p [] then some k else none
 cnts:∀p (hp:p<R.rows.length),R.rows[p].count=c0.getD p 0+(R.qo.getD p []).length
theorem QD{α:Type}{l:List α}{i:Nat}(d:α)(h:i<l.length):l.getD i d=l[i]:=by simp[List.getD,h]
theorem mR{α:Type}(l:List α)(i j:Nat)(v d:α):(l.set i v).getD j d=if i=j/\i<l.length then v else l.getD j d:=by
 simp only[gL,ro];by_cases h:i=j
 ·subst h;by_cases a:i<l.length
  ·simp[a]
  ·simp[a]
 ·simp[h]
theorem R0.add{f:List Nat}{W k:Nat}{D0:DB}{c0:List Nat}{R:zy}(h:R0 f W k D0 c0 R)(h3:∀a∈f,a<=3){p:Nat}(F:p<f.length){row:zm}(v:QP (f.getD p 0) row)(hs:Rc W row){mr:Nat}(hc:R.count<=mr)(hm:mr<=1048576):
  ∃B ok,addR mr R p row=some (B,ok)/\R0 f W k D0 c0 B/\B.jf=R.jf/\(zyl f B p row).isSome=true/\(∀q x,x∈R.qo.getD q []->x∈B.qo.getD q [])/\(∀q x,x∈B.qo.getD q []->x∈R.qo.getD q []∨q=p/\x=row)/\(ok=true->B.count<=mr)/\(ok=false->B.count>mr):=by
 have g:p<R.rows.length:=by rw[h.inv.len];exact F
 have w:p<R.qo.length:=by rw[h.flen];exact F
 obtain⟨t1,t2,K,t4⟩:=h.inv.tries p g;have N:f.getD p 0<=3:=by rw[QD _ F];exact h3 _ (zs F)
 have Z:=eA R.rows p g;rw[←h.inv.cnt] at Z;have Q:=h.cnts p g;have L:=(BC R.rows[p] row).2 (by rw[t2];exact hs);obtain⟨O,X,H,I,a5,V,P⟩:=t1.add row R.qw v.1 L;have ac:(row.take R.rows[p].ql).length=R.rows[p].ql:=by
  rw[qC,v.1,K];have:=(fX (f.getD p 0)).2;omega
 have M:=fun x (i:QP (f.getD p 0) x)=>t1.mark x i.1;have A:R.rows.getD p zi.zero=R.rows[p]:=QD _ g;have o:zyl f R p row=ua R.rows[p] (row.take R.rows[p].ql):=by
  unfold zyl;rw[zc ⟨F,v⟩,A,M row v]
 unfold addR;rw[zc ⟨g,w,by rw[A];exact t1.okT (by omega),by omega,by omega⟩,A];cases hA:addP R.rows[p] row R.qw with
 |mk T b=>
  rw[hA] at O X H I a5 V P;simp only at O X H I a5 V P;cases b with
  |false=>
   have hT:=a5 rfl;subst hT;have D:=rA g;refine⟨{R with rows:=R.rows.set p R.rows[p]},true,rfl,?_,rfl,?_,fun q x i=>i,fun q x i=>zf i,fun _=>hc,fun q=>by cases q⟩
   ·rw[D];exact h
   ·rw[D];show(zyl f R p row).isSome=true;rw[o];rw[←Option.not_isNone,←I];rfl
  |true=>
   have n:ua R.rows[p] (row.take R.rows[p].ql)=none:=by
    cases j:ua R.rows[p] (row.take R.rows[p].ql) with
    |none=>rfl
    |some m=>rw[j] at I;cases I
   have u:D0 p row=none/\row∉R.qo.getD p []:=by
    have:=h.abs p row;rw[o,n] at this;cases j:D0 p row with
    |some m=>rw[j] at this;cases this
    |none=>
     rw[j] at this;refine⟨rfl,fun S=>?_⟩;simp only at this;rw[zc S] at this;cases this
   have J:R.qo.getD p []=R.qo[p]:=QD _ w;have ab:=Oz R.rows p T g;have E:=V rfl;have aa:(R.rows.set p T).length=R.rows.length:=by simp
   have hinv:jp f W {R with rows:=R.rows.set p T,qo:=R.qo.set p (R.qo.getD p []++[row]),count:=R.count+1}:=by
    refine⟨by simp[h.inv.len],fun q j=>?_,?_⟩
    ·simp only[fh] at j;simp only[lO];by_cases e:p=q
     ·subst e;simp only[if_true];refine⟨O,by rw[X,t2],by rw[H,K],fun x i=>?_⟩;obtain⟨U,Y⟩:=(qX T x).1 i;rw[H] at U ⊢;rw[P x U] at Y;by_cases G:x=row.take R.rows[p].ql
      ·rw[G,K,BI N v];exact v
      ·rw[za G] at Y;exact t4 x ((qX R.rows[p] x).2 ⟨U,Y⟩)
     ·simp only[e,if_false];exact h.inv.tries q j
    ·show R.count+1=((R.rows.set p T).map (·.count)).sum;rw[h.inv.cnt];omega
   have r:∀q,(R.rows.set p T).getD q zi.zero=if p=q then T else R.rows.getD q zi.zero:=fun q=>by
    rw[mR];by_cases e:p=q
    ·rw[zc ⟨e,g⟩,zc e]
    ·rw[za (fun x=>e x.1),za e]
   have c:∀q,(R.qo.set p (R.qo.getD p []++[row])).getD q []=if p=q then R.qo.getD p []++[row] else R.qo.getD q []:=fun q=>by
    rw[mR];by_cases e:p=q
    ·rw[zc ⟨e,w⟩,zc e]
    ·rw[za (fun x=>e x.1),za e]
   have t:∀q x,zyl f {R with rows:=R.rows.set p T,qo:=R.qo.set p (R.qo.getD p []++[row]),count:=R.count+1} q x=if q=p/\x=row then some k else zyl f R q x:=by
    intro q x;unfold zyl;simp only[r];by_cases e:p=q
    ·subst e;simp only[if_true,true_and];by_cases d:p<f.length/\QP (f.getD p 0) x
     ·rw[zc d,zc d,A,M x d.2,O.mark x d.2.1,H,P _ (by rw[qC,d.2.1,K];have:=(fX (f.getD p 0)).2;omega)];by_cases G:x=row
      ·subst G;rw[zc rfl,zc rfl,n,h.qw];rfl
      ·rw[za G,za];intro C;rw[K] at C;exact G (GU N d.2 v C)
     ·rw[za d,za d,za];rintro rfl;exact d ⟨F,v⟩
    ·simp only[e,if_false];rw[za (fun z:q=p/\x=row=>e z.1.symm)]
   refine⟨{R with rows:=R.rows.set p T,qo:=R.qo.set p (R.qo.getD p []++[row]),count:=R.count+1},decide (R.count+1<=mr),rfl,⟨hinv,h.qw,by simp[h.flen],fun q j=>?_,fun q x=>?_,fun q j=>?_⟩,rfl,?_,fun q x i=>?_,fun q x i=>?_,fun q=>by simpa using q,fun q=>by simpa using q⟩
   ·have s:q<R.qo.length:=by simpa using j
    have e:(R.qo.set p (R.qo.getD p []++[row]))[q]=(R.qo.set p (R.qo.getD p []++[row])).getD q []:=(QD _ j).symm;show((R.qo.set p (R.qo.getD p []++[row]))[q]).Nodup/\_;rw[e,c q];by_cases C:p=q
    ·subst C;rw[zc rfl,J];obtain⟨n1,n2⟩:=h.qo p w;rw[J] at u;refine⟨?_,fun x i=>?_⟩
     ·rw[qa];exact⟨n1,by simp,fun x i y hy=>by simp at hy;subst hy;rintro rfl;exact u.2 i⟩
     ·rcases zI.1 i with q|q
      ·exact n2 x q
      ·simp at q;subst q;exact⟨v,hs,u.1⟩
    ·rw[za C,QD _ s];exact h.qo q s
   ·rw[t];show _=match D0 q x with|some m=>some m|none=>if x∈(R.qo.set p (R.qo.getD p []++[row])).getD q [] then some k else none
    rw[c q,h.abs q x];by_cases e:q=p/\x=row
    ·obtain⟨rfl,rfl⟩:=e;rw[zc ⟨rfl,rfl⟩,u.1];simp
    ·rw[za e];cases D0 q x with
     |some m=>rfl
     |none=>
      simp only;by_cases C:p=q
      ·subst C;rw[zc rfl];have:x≠row:=fun e3=>e ⟨rfl,e3⟩;simp[this]
      ·rw[za C]
   ·have s:q<R.rows.length:=by simpa using j
    show(R.rows.set p T)[q].count=c0.getD q 0+((R.qo.set p (R.qo.getD p []++[row])).getD q []).length;rw[c q,←QD zi.zero j,r q];by_cases e:p=q
    ·subst e;rw[zc rfl,zc rfl,E,Q];simp;omega
    ·rw[za e,za e,QD _ s];exact h.cnts q s
   ·rw[t,zc ⟨rfl,rfl⟩];rfl
   ·show x∈(R.qo.set p (R.qo.getD p []++[row])).getD q [];rw[c q];by_cases e:p=q
    ·subst e;rw[zc rfl];exact List.mem_append_left _ i
    ·rw[za e];exact i
   ·have l:x∈(R.qo.set p (R.qo.getD p []++[row])).getD q []:=i;rw[c q] at l;by_cases e:p=q
    ·subst e;rw[zc rfl] at l;rcases zI.1 l with q|q
     ·exact zf q
     ·simp at q;exact zb ⟨rfl,q⟩
    ·rw[za e] at l;exact zf l
end
section
open Classical
variable {Ts Ns:List zi}{W:Nat}
theorem FD{r:zr}(e:gU r)(d:dL r Ts W){y:List Nat}(m:jq r Ts Ns y){p:Nat}(n:p<r.vars):y.getD p 0<W:=by
 obtain⟨l,j,g⟩:=e.safe p n;obtain⟨i,c,rfl⟩:=qk j;have b:i<Ts.length:=by rw[d.len];exact c
 obtain⟨_,_,o⟩:=d.ok i _ _ (yp c) (yp b);have k:=e.vars;have a:=(pn _ 5 p).2 ⟨by omega,g⟩;have h:yO r.qc[i]≠0:=by
  rw[fz];intro q;rw[mo.1 q] at a;cases a
 have f:=(m.1 i _ _ (yp c) (yp b)).2 h;have:=tP _ 0 f (y.getD p 0) (z7.2 ⟨p,a,rfl⟩);omega
theorem B1{l:zu}{a:Nat}(h:qT l a W)(f:0<W){y:List Nat}(j:∀p,zH l p=true->y.getD p 0<W):Rc W (zF l y):=by
 have g:∀i,Q9 l y i<W:=by
  intro i;unfold Q9;split
  ·rename_i e;rw[show l.qg.getD i ⟨false,0,0⟩=l.qg[i] by simp[List.getD,e]];have d:=zs e;unfold RU;split
   ·rename_i b;simp only[uw,decide_eq_true_eq] at b;exact j _ ((hY l _).2 ⟨_,d,b.1,rfl⟩)
   ·rename_i b;cases c:l.qg[i].var with
    |true=>
     have:=(h.lev _ d c).1;simp[c,this] at b
    |false=>exact h.con _ d c
  ·exact f
 intro v b;simp only[zF,zx,fG,or_false] at b;rcases b with rfl|rfl|rfl<;>exact g _
theorem nE.mono{r:zr}{E i:zm->Prop}{J:z9}{M:Nat}(h:nE r Ts Ns W E J M)(g:∀x,E x->i x):nE r Ts Ns W i J M:=by
 rcases h with⟨e,b,c⟩|⟨l,d,f,e,b,c,j,k,m⟩
 ·exact zf ⟨e,b,fun y a=>g _ (c y a)⟩
 ·exact zb ⟨l,d,f,e,b,c,j,fun y a=>(k y a).imp (g _) id,m⟩
theorem R0.jf{a:List Nat}{W k:Nat}{D0:DB}{c0:List Nat}{R:zy}(h:R0 a W k D0 c0 R)(m:Int):R0 a W k D0 c0 {R with jf:=m}:=
 ⟨⟨h.inv.len,h.inv.tries,h.inv.cnt⟩,h.qw,h.flen,h.qo,h.abs,h.cnts⟩
theorem R0.grow{b:List Nat}{k:Nat}{D0:DB}{c0:List Nat}{R R':zy}(h:R0 b W k D0 c0 R)(d:R0 b W k D0 c0 R')(f:∀q x,x∈R.qo.getD q []->x∈R'.qo.getD q []){p:Nat}{x:zm}(a:(zyl b R p x).isSome=true):(zyl b R' p x).isSome=true:=by
 rw[h.abs] at a;rw[d.abs];cases e:D0 p x with
 |some m=>rfl
 |none=>
  rw[e] at a;simp only at a ⊢;by_cases c:x∈R.qo.getD p []
  ·rw[zc (f p x c)];rfl
  ·rw[za c] at a;cases a
structure Fq (ar:List Nat) (W k:Nat) (D0:DB) (c0:List Nat) (p mr:Nat) (sol:zm->Prop) (R R':zy) (ok:Bool):Prop where
 mid:R0 ar W k D0 c0 R'
 mono:∀q x,x∈R.qo.getD q []->x∈R'.qo.getD q []
 sound:∀q x,x∈R'.qo.getD q []->x∈R.qo.getD q []∨q=p/\sol x
 yes:ok=true->R'.count<=mr/\∀x,sol x->(zyl ar R' p x).isSome=true
 no:ok=false->R'.count>mr
theorem Jb{d:List Nat}{k:Nat}{D0:DB}{c0:List Nat}{r:zr}(v:gU r)(w:dL r Ts W)(h3:∀a∈d,a<=3)(N:0<W)(V:r.head.pred<d.length)(F:qT r.head (d.getD r.head.pred 0) W)(A:Nat)(Q:W*(r.qc.length+1)+r.qc.length<=A){mr:Nat}(s:mr<=1048576):
  ∀(n:Nat) (R:zy) (J:z9) (M:Nat),R0 d W k D0 c0 R->R.count<=mr->nE r Ts Ns W (fun x=>(zyl d R r.head.pred x).isSome=true) J M->M+A+2<n->∃B ok,vH mr r.head.pred n R J=some (B,ok)/\Fq d W k D0 c0 r.head.pred mr (fun x=>∃y,jq r Ts Ns y/\x=zF r.head y) R B ok:=by
 intro n;induction n with
 |zero=>intro R J M _ _ _ h;omega
 |succ n Y=>
  intro R J M h E X hn;obtain⟨f,b,G,n2,I⟩:=OU v w _ A Q n J M X (by omega);unfold vH;rw[G];cases b with
  |false=>
   refine⟨_,true,rfl,h.jf _,fun q x c=>c,fun q x c=>zf c,fun _=>⟨E,?_⟩,fun q=>by cases q⟩;rintro x ⟨y,Z,rfl⟩;exact n2 rfl y Z
  |true=>
   obtain⟨m,H,M',m3,O⟩:=I rfl;simp only;rw[H];have i:=B1 F N fun p j=>FD v w m (v.head p j);obtain⟨D,ok,S,l,_,K,t,C,U,P⟩:=h.add h3 V (sw F f.ja) i E s;rw[S];cases ok with
   |false=>
    refine⟨D,false,rfl,l,t,fun q x c=>?_,(fun q=>by cases q),P⟩;rcases C q x c with z|⟨g,o⟩
    ·exact zf z
    ·exact zb ⟨g,f.ja,m,o⟩
   |true=>
    simp only;obtain⟨L,u,T,e⟩:=Y D f M' l (U rfl) (O.mono fun x c=>by
     rcases c with q|q
     ·exact h.grow l t q
     ·rw[q];exact K) (by omega)
    refine⟨L,u,T,e.mid,fun q x c=>e.mono q x (t q x c),fun q x c=>?_,e.yes,e.no⟩;rcases e.sound q x c with z|z
    ·rcases C q x z with z|⟨g,o⟩
     ·exact zf z
     ·exact zb ⟨g,f.ja,m,o⟩
    ·exact zb z
end
section
open Classical
variable {r:zr}{ar c0:List Nat}{W wd mr:Nat}
def QH(D:DB)(p:Nat)(x:zm):Prop:=(D p x).isSome=true
def Sq(r:zr)(D:DB)(x:zm):Prop:=∃y,(∀l∈r.qc,QH D l.pred (zF l y))/\(∀l∈r.qp,D l.pred (zF l y)=none)/\x=zF r.head y
structure nM (r:zr) (ar:List Nat) (W:Nat):Prop where
 fine:gU r
 hpred:r.head.pred<ar.length
 head:qT r.head (ar.getD r.head.pred 0) W
 qc:∀l∈r.qc,l.pred<ar.length/\qT l (ar.getD l.pred 0) W
 qp:∀l∈r.qp,l.pred<ar.length/\qT l (ar.getD l.pred 0) W
def pZ(ar:List Nat)(D:DB):Prop:=∀p x,QH D p x->p<ar.length/\QP (ar.getD p 0) x
theorem Dm(ar:List Nat)(R:zy):pZ ar (zyl ar R):=by
 intro p x h;unfold QH zyl at h;split at h
 ·assumption
 ·cases h
theorem ER(o:nM r ar W){R:zy}(u:jp ar W R){g:List zi}{P:Nat->zm->Prop}(f:g.length=r.qc.length)(p:∀(i:Nat) (l:zu) (T:zi),r.qc[i]?=some l->g[i]?=some T->uU T l W (P i)/\∀x,P i x->QP (ar.getD l.pred 0) x)(y:List Nat):
  jq r g (qZ wd R r) y↔(∀(i:Nat) (l:zu),r.qc[i]?=some l->P i (zF l y))/\∀l∈r.qp,zyl ar R l.pred (zF l y)=none:=by
 have b:∀l∈r.qp,uq (fK wd R l.pred) (zF l y)=zyl ar R l.pred (zF l y):=by
  intro l a;obtain⟨q,s⟩:=o.qp l a;unfold fK zyl;rw[za (by rw[u.len];omega),zc ⟨q,sw s y⟩]
 unfold jq qZ;constructor
 ·rintro⟨k,n⟩;refine⟨fun i l a=>?_,fun l a=>?_⟩
  ·have d:i<g.length:=by rw[f];exact(jX.1 a).1
   obtain⟨j,h⟩:=p i l _ a (yp d);exact(j.sat (o.qc l (dT a)).2 h y).1 (k i l _ a (yp d))
  ·rw[←b l a];obtain⟨i,c,rfl⟩:=qk a;exact n (r.qp[i],fK wd R r.qp[i].pred) (vw.2 ⟨i,by simp[c],by simp⟩)
 ·rintro⟨k,n⟩;refine⟨fun i l T a m=>?_,fun x t=>?_⟩
  ·obtain⟨j,h⟩:=p i l T a m;exact(j.sat (o.qc l (dT a)).2 h y).2 (k i l a)
  ·obtain⟨i,c,rfl⟩:=vw.1 t;simp only[List.length_zip,uu] at c;have e:i<r.qp.length:=by omega
   simp only[List.getElem_zip,uJ];rw[b _ (zs e)];exact n _ (zs e)
structure e9 (ar:List Nat) (W:Nat) (w:zX) (r:zr) (D0 D:DB) (c:List Nat):Prop where
 rule:w.rule=r
 len:w.qm.length=r.qc.length
 qm:∀(i:Nat) (l:zu) (V:y6),r.qc[i]?=some l->w.qm[i]?=some V->n9 V l W (QH D0 l.pred) (QH D l.pred) (fun x=>QH D l.pred x/\¬QH D0 l.pred x) (c.getD l.pred 0)
def la(W:Nat)(r:zr):Nat:=vA W r.vars 0 [] 0+(W*(r.qc.length+1)+r.qc.length)+3
theorem EW{k:Nat}{D:DB}(g:nM r ar W)(J:∀a∈ar,a<=3)(E:0<W)(p:mr<=1048576){R:zy}(u:R0 ar W k D c0 R)(I:R.count<=mr){h:List zi}{P:Nat->zm->Prop}(c:h.length=r.qc.length)(s:∀(i:Nat) (l:zu) (T:zi),r.qc[i]?=some l->h[i]?=some T->uU T l W (P i)/\∀x,P i x->QP (ar.getD l.pred 0) x)(C:∀l∈r.qp,∀x,zyl ar R l.pred x=D l.pred x)(b:Nat)(w:la W r<=b):
  ∃m ok,vH mr r.head.pred b R (xx r h (qZ wd R r))=some (m,ok)/\Fq ar W k D c0 r.head.pred mr (fun x=>∃y,((∀(i:Nat) (l:zu),r.qc[i]?=some l->P i (zF l y))/\∀l∈r.qp,D l.pred (zF l y)=none)/\x=zF r.head y) R m ok:=by
 have A:dL r h W:=⟨c,fun i l T e o=>by obtain⟨v,_⟩:=s i l T e o;exact⟨v.ok,v.ql,by rw[v.qf];exact zg _⟩⟩;have B:vA W r.vars 0 [] 0+(W*(r.qc.length+1)+r.qc.length)+3<=b:=w;obtain⟨m,ok,F,f⟩:=Jb (Ns:=qZ wd R r) (D0:=D) (c0:=c0) (k:=k) g.fine A J E g.hpred g.head _ (zg _) p b R _ _ u I (PB g.fine A _) (by omega);have d:∀x,(∃y,jq r h (qZ wd R r) y/\x=zF r.head y)↔∃y,((∀(i:Nat) (l:zu),r.qc[i]?=some l->P i (zF l y))/\∀l∈r.qp,D l.pred (zF l y)=none)/\x=zF r.head y:=by
  intro x;constructor
  ·rintro⟨y,j,t⟩;obtain⟨H,G⟩:=(ER g u.inv c s y).1 j;exact⟨y,⟨H,fun l e=>by rw[←C l e];exact G l e⟩,t⟩
  ·rintro⟨y,j,t⟩;exact⟨y,(ER g u.inv c s y).2 ⟨j.1,fun l e=>by rw[C l e];exact j.2 l e⟩,t⟩
 exact⟨m,ok,F,f.mid,f.mono,fun q x n=>(f.sound q x n).imp id fun z=>⟨z.1,(d x).1 z.2⟩,fun q=>⟨(f.yes q).1,fun x n=>(f.yes q).2 x ((d x).2 n)⟩,f.no⟩
structure sV (ar:List Nat) (W k:Nat) (D:DB) (c0:List Nat) (mr:Nat) (want:Nat->zm->Prop) (R R':zy) (ok:Bool):Prop where
 mid:R0 ar W k D c0 R'
 mono:∀q x,x∈R.qo.getD q []->x∈R'.qo.getD q []
 sound:∀q x,x∈R'.qo.getD q []->x∈R.qo.getD q []∨want q x
 yes:ok=true->R'.count<=mr
 no:ok=false->R'.count>mr
theorem Ip{k:Nat}{D0 D:DB}{w:zX}(t:e9 ar W w r D0 D c0)(G:pZ ar D)(L:nM r ar W)(K:∀a∈ar,a<=3)(B:0<W)(o:mr<=1048576){R:zy}(J:R0 ar W k D c0 R)(I:R.count<=mr)(F:∀l∈r.qp,∀x,zyl ar R l.pred x=D l.pred x)(c:Nat)(s:la W r<=c):
  ∃h ok,kU c wd mr true R w=some (h,ok)/\sV ar W k D c0 mr (fun q x=>q=r.head.pred/\Sq r D x) R h ok/\(ok=true->∀x,Sq r D x->QH (zyl ar h) r.head.pred x):=by
 have H:∀(i:Nat) (l:zu) (T:zi),r.qc[i]?=some l->(w.qm.map (·.all))[i]?=some T->uU T l W ((fun i x=>∃l,r.qc[i]?=some l/\QH D l.pred x) i)/\∀x,(fun i x=>∃l,r.qc[i]?=some l/\QH D l.pred x) i x->QP (ar.getD l.pred 0) x:=by
  intro i l T d m;simp only[lK,vM] at m;obtain⟨V,A,rfl⟩:=m;refine⟨(t.qm i l V d A).all.congr fun x=>⟨fun q=>⟨l,d,q⟩,fun⟨j,b,f⟩=>?_⟩,fun x ⟨j,b,f⟩=>?_⟩
  ·rw[d] at b;simp only[zt] at b;subst b;exact f
  ·rw[d] at b;simp only[zt] at b;subst b;exact(G _ x f).2
 obtain⟨h,ok,C,g⟩:=EW (wd:=wd) L K B o J I (by simp[t.len]) H F c s;have e:∀x,(∃y,((∀(i:Nat) (l:zu),r.qc[i]?=some l->(∃j,r.qc[i]?=some j/\QH D j.pred (zF l y)))/\∀l∈r.qp,D l.pred (zF l y)=none)/\x=zF r.head y)↔Sq r D x:=by
  intro x;constructor
  ·rintro⟨y,⟨b,f⟩,u⟩;refine⟨y,fun l d=>?_,f,u⟩;obtain⟨i,v,rfl⟩:=qk d;obtain⟨j,p,E⟩:=b i _ (yp v);rw[yp v] at p;simp only[zt] at p;subst p;exact E
  ·rintro⟨y,b,f,u⟩;exact⟨y,⟨fun i l d=>⟨l,d,b l (dT d)⟩,f⟩,u⟩
 unfold kU;rw[zc rfl,t.rule];exact⟨h,ok,C,⟨g.mid,g.mono,fun q x n=>(g.sound q x n).imp id fun z=>⟨z.1,(e x).1 z.2⟩,fun q=>(g.yes q).1,g.no⟩,fun q x n=>(g.yes q).2 x ((e x).2 n)⟩
def Sv(r:zr)(D0 D:DB)(i:Nat)(y:List Nat):Prop:=∃(j:Nat) (l:zu),i<=j/\r.qc[j]?=some l/\QH D l.pred (zF l y)/\¬QH D0 l.pred (zF l y)/\(∀(t:Nat) (a:zu),r.qc[t]?=some a->(t<j->QH D0 a.pred (zF a y))/\(j<t->QH D a.pred (zF a y)))/\∀l∈r.qp,D l.pred (zF l y)=none
theorem OA{k:Nat}{D0 D:DB}{w:zX}(K:e9 ar W w r D0 D c0)(U:pZ ar D)(N:∀p x,QH D0 p x->QH D p x)(hr:nM r ar W)(h3:∀a∈ar,a<=3)(hW:0<W)(ag:mr<=1048576)(s:Nat)(ah:la W r<=s)(af:∀l∈r.qp,l.pred≠r.head.pred):
  ∀(n i:Nat) (R:zy),i+n=w.qm.length->R0 ar W k D c0 R->R.count<=mr->(∀l∈r.qp,∀x,zyl ar R l.pred x=D l.pred x)->∃R' ok,jz s wd mr w n i R=some (R',ok)/\sV ar W k D c0 mr (fun q x=>q=r.head.pred/\Sq r D x) R R' ok/\(ok=true->∀y,Sv r D0 D i y->QH (zyl ar R') r.head.pred (zF r.head y)):=by
 intro n;induction n with
 |zero=>
  intro i R hi P X _;refine⟨R,true,rfl,⟨P,fun q x c=>c,fun q x c=>zf c,fun _=>X,fun q=>by cases q⟩,fun _ y Q=>?_⟩;obtain⟨j,l,b,d,_⟩:=Q;have:=(jX.1 d).1;have:=K.len;omega
 |succ n ih=>
  intro i R hi P X hn;have I:i<w.qm.length:=by omega
  have A:i<r.qc.length:=by rw[←K.len];exact I
  have hV:=K.qm i _ _ (yp A) (yp I);have ab:=(hr.qc _ (zs A)).2;have hg:w.qm.getD i ⟨⟨0,[]⟩,zi.zero,zi.zero,zi.zero⟩=w.qm[i]:=QD _ I;unfold jz;rw[hg];by_cases u:w.qm[i].qo.count>0
  ·rw[zc u];have hT:∀(t:Nat) (l:zu) (T:zi),r.qc[t]?=some l->(QS w.qm i)[t]?=some T->uU T l W ((fun t x=>∃l,r.qc[t]?=some l/\(t<i->QH D0 l.pred x)/\(t=i->QH D l.pred x/\¬QH D0 l.pred x)/\(i<t->QH D l.pred x)) t)/\∀x,(fun t x=>∃l,r.qc[t]?=some l/\(t<i->QH D0 l.pred x)/\(t=i->QH D l.pred x/\¬QH D0 l.pred x)/\(i<t->QH D l.pred x)) t x->QP (ar.getD l.pred 0) x:=by
    intro t l T g F;unfold QS at F;simp only[lK,vM,List.getElem?_zipIdx] at F;obtain⟨⟨V,j⟩,⟨V',ae,O⟩,rfl⟩:=F;simp only[vB,ya] at O;obtain⟨rfl,rfl⟩:=O;have H:=K.qm t l V' g ae;have M:∀x,(∃l,r.qc[t]?=some l/\(t<i->QH D0 l.pred x)/\(t=i->QH D l.pred x/\¬QH D0 l.pred x)/\(i<t->QH D l.pred x))->QP (ar.getD l.pred 0) x:=by
     rintro x ⟨f,b,d,v,C⟩;rw[g] at b;simp only[zt] at b;subst b;rcases pD t i with z|z|z
     ·exact(U _ x (N _ x (d z))).2
     ·exact(U _ x (v z).1).2
     ·exact(U _ x (C z)).2
    refine⟨?_,M⟩;simp only;by_cases h1:t<i
    ·rw[zc h1];refine H.before.congr fun x=>⟨fun q=>⟨l,g,fun _=>q,fun z=>by omega,fun z=>by omega⟩,fun⟨f,b,d,_,_⟩=>?_⟩;rw[g] at b;simp only[zt] at b;subst b;exact d h1
    ·rw[za h1];by_cases h2:t=i
     ·rw[zc h2];refine H.qo.congr fun x=>⟨fun q=>⟨l,g,fun z=>by omega,fun _=>q,fun z=>by omega⟩,fun⟨f,b,_,v,_⟩=>?_⟩;rw[g] at b;simp only[zt] at b;subst b;exact v h2
     ·rw[za h2];refine H.all.congr fun x=>⟨fun q=>⟨l,g,fun z=>by omega,fun z=>by omega,fun _=>q⟩,fun⟨f,b,_,_,C⟩=>?_⟩;rw[g] at b;simp only[zt] at b;subst b;exact C (by omega)
   obtain⟨R1,ok,a1,o⟩:=EW (wd:=wd) hr h3 hW ag P X (by simp[QS,K.len]) hT hn s ah;rw[K.rule,a1];have e:∀x,(∃y,((∀(t:Nat) (l:zu),r.qc[t]?=some l->(∃f,r.qc[t]?=some f/\(t<i->QH D0 f.pred (zF l y))/\(t=i->QH D f.pred (zF l y)/\¬QH D0 f.pred (zF l y))/\(i<t->QH D f.pred (zF l y))))/\∀l∈r.qp,D l.pred (zF l y)=none)/\x=zF r.head y)->Sq r D x:=by
    rintro x ⟨y,⟨b,d⟩,v⟩;refine⟨y,fun l g=>?_,d,v⟩;obtain⟨t,ht,rfl⟩:=qk g;obtain⟨f,s1,s2,s3,s4⟩:=b t _ (yp ht);rw[yp ht] at s1;simp only[zt] at s1;subst s1;rcases pD t i with z|z|z
    ·exact N _ _ (s2 z)
    ·exact(s3 z).1
    ·exact s4 z
   cases ok with
   |false=>
    exact⟨R1,false,rfl,⟨o.mid,o.mono,fun q x c=>(o.sound q x c).imp id fun z=>⟨z.1,e x z.2⟩,(fun q=>by cases q),o.no⟩,fun q=>by cases q⟩
   |true=>
    simp only;obtain⟨b1,b2⟩:=o.yes rfl;have ac:∀l∈r.qp,∀x,zyl ar R1 l.pred x=D l.pred x:=by
     intro l g x;have aa:=af l g;rw[o.mid.abs,←hn l g x,P.abs];cases hq:D l.pred x with
     |some m=>rfl
     |none=>
      simp only;by_cases c:x∈R.qo.getD l.pred []
      ·rw[zc c,zc (o.mono _ x c)]
      ·rw[za c,za];intro ad;rcases o.sound _ x ad with z|z
       ·exact c z
       ·exact aa z.1
    obtain⟨R2,G,Z,B,Y⟩:=ih (i+1) R1 (by omega) o.mid b1 ac;refine⟨R2,G,Z,⟨B.mid,fun q x c=>B.mono q x (o.mono q x c),fun q x c=>?_,B.yes,B.no⟩,fun E y Q=>?_⟩
    ·rcases B.sound q x c with z|z
     ·exact(o.sound q x z).imp id fun z=>⟨z.1,e x z.2⟩
     ·exact zb z
    ·obtain⟨j,l,b,d,v,C,L,S⟩:=Q;by_cases J:j=i
     ·subst J;refine o.mid.grow B.mid B.mono (b2 _ ⟨y,⟨fun t f h=>⟨f,h,fun z=>(L t f h).1 z,fun z=>?_,fun z=>(L t f h).2 z⟩,S⟩,rfl⟩);subst z;rw[d] at h;simp only[zt] at h;subst h;exact⟨v,C⟩
     ·exact Y E y ⟨j,l,by omega,d,v,C,L,S⟩
  ·rw[za u];obtain⟨R2,G,Z,B,Y⟩:=ih (i+1) R (by omega) P X hn;refine⟨R2,G,Z,B,fun E y Q=>?_⟩;obtain⟨j,l,b,d,v,C,L,S⟩:=Q;by_cases J:j=i
   ·subst J;rw[yp A] at d;simp only[zt] at d;subst d;have hs:=(hV.qo.sat ab (fun x c=>(U _ x c.1).2) y).2 ⟨v,C⟩;exact zC (Nat.pos_of_ne_zero (hs.count hV.qo.ok hV.qo.ql (hr.fine.qg _ (zs A)))) u
   ·exact Y E y ⟨j,l,by omega,d,v,C,L,S⟩
end
section
open Classical
variable {ar:List Nat}{W wd:Nat}{D0:DB}{ws:List zX}{rs:List zr}
structure rU (rs:List zr) (ar:List Nat) (W:Nat):Prop where
 rules:∀r∈rs,nM r ar W
 apart:∀r∈rs,∀r'∈rs,∀l∈r.qp,l.pred≠r'.head.pred
def wR(rs:List zr)(R:zy):Prop:=∀q x,x∈R.qo.getD q []->∃r∈rs,q=r.head.pred
theorem R0.qp{ar:List Nat}{W k:Nat}{D:DB}{c0:List Nat}{R:zy}{rs:List zr}(h:R0 ar W k D c0 R)(hs:rU rs ar W)(e:wR rs R){r:zr}(g:r∈rs):∀l∈r.qp,∀x,zyl ar R l.pred x=D l.pred x:=by
 intro l a x;rw[h.abs];cases i:D l.pred x with
 |some m=>rfl
 |none=>
  simp only;rw[za];intro b;obtain⟨d,f,c⟩:=e _ x b;exact hs.apart r g d f l a c
inductive jM (ar:List Nat) (W:Nat) (D0 D:DB) (c:List Nat):List zX->List zr->Prop
 |nil:jM ar W D0 D c [] []
 |cons {w:zX} {r:zr} {ws:List zX} {rs:List zr}:e9 ar W w r D0 D c->jM ar W D0 D c ws rs->jM ar W D0 D c (w::ws) (r::rs)
def pk(first:Bool)(r:zr)(D0 D:DB)(x:zm):Prop:=if first then Sq r D x else ∃y,Sv r D0 D 0 y/\x=zF r.head y
theorem L4{k:Nat}{D:DB}{c0:List Nat}(L:pZ ar D)(G:∀p x,QH D0 p x->QH D p x)(M:∀a∈ar,a<=3)(J:0<W){mr:Nat}(s:mr<=1048576)(c:Nat){f:List zr}(hs:rU f ar W)(v:∀r∈f,la W r<=c)(first:Bool)(Y:jM ar W D0 D c0 ws rs)(h:∀r∈rs,r∈f):
  ∀(R:zy),R0 ar W k D c0 R->R.count<=mr->wR f R->∃A ok,kO c wd mr first ws R=some (A,ok)/\sV ar W k D c0 mr (fun q x=>∃r∈rs,q=r.head.pred/\Sq r D x) R A ok/\wR f A/\(ok=true->∀r∈rs,∀x,pk first r D0 D x->QH (zyl ar A) r.head.pred x):=by
 induction Y with
 |nil=>
  intro R u B C;exact⟨R,true,rfl,⟨u,fun q x b=>b,fun q x b=>zf b,fun _=>B,fun q=>by cases q⟩,C,fun _ r Z=>by cases Z⟩
 |@cons w r ws rs t Q X=>
  intro R u B C;have d:=h r (by simp);have K:=u.qp hs C d;have n:∃g ok,kU c wd mr first R w=some (g,ok)/\sV ar W k D c0 mr (fun q x=>q=r.head.pred/\Sq r D x) R g ok/\(ok=true->∀x,pk first r D0 D x->QH (zyl ar g) r.head.pred x):=by
   cases first with
   |true=>
    obtain⟨g,ok,m,e,l⟩:=Ip (wd:=wd) t L (hs.rules r d) M J s u B K c (v r d);exact⟨g,ok,m,e,fun q x b=>l q x (by simpa [pk] using b)⟩
   |false=>
    obtain⟨g,ok,m,e,l⟩:=OA (wd:=wd) t L G (hs.rules r d) M J s c (v r d) (hs.apart r d r d) w.qm.length 0 R (by omega) u B K;refine⟨g,ok,?_,e,fun q x b=>?_⟩
    ·unfold kU;exact m
    ·have E:∃y,Sv r D0 D 0 y/\x=zF r.head y:=by simpa [pk] using b
     obtain⟨y,T,rfl⟩:=E;exact l q y T
  obtain⟨g,ok,m,e,l⟩:=n;have o:wR f g:=by
   intro q x b;rcases e.sound q x b with z|z
   ·exact C q x z
   ·exact⟨r,d,z.1⟩
  unfold kO;rw[m];cases ok with
  |false=>
   exact⟨g,false,rfl,⟨e.mid,e.mono,fun q x b=>(e.sound q x b).imp id fun z=>⟨r,by simp,z⟩,e.yes,e.no⟩,o,fun q=>by cases q⟩
  |true=>
   simp only;obtain⟨P,I,S,j,O,V⟩:=X (fun x b=>h x (by simp[b])) g e.mid (e.yes rfl) o;refine⟨P,I,S,⟨j.mid,fun q x b=>j.mono q x (e.mono q x b),fun q x b=>?_,j.yes,j.no⟩,O,fun F H i x b=>?_⟩
   ·rcases j.sound q x b with z|⟨H,N,U⟩
    ·exact(e.sound q x z).imp id fun z=>⟨r,by simp,z⟩
    ·exact zb ⟨H,by simp[N],U⟩
   ·rcases zx.1 i with rfl|i
    ·exact e.mid.grow j.mid j.mono (l rfl x b)
    ·exact V F H i x b
theorem FX{r:zr}{D:DB}(g:∀p x,QH D0 p x->QH D p x){y:List Nat}(B:∀l∈r.qc,QH D l.pred (zF l y))(v:∀l∈r.qp,D l.pred (zF l y)=none):Sv r D0 D 0 y∨Sq r D0 (zF r.head y):=by
 by_cases c:∀l∈r.qc,QH D0 l.pred (zF l y)
 ·refine zb ⟨y,c,fun l e=>?_,rfl⟩;cases d:D0 l.pred (zF l y) with
  |none=>rfl
  |some m=>
   have:=g l.pred (zF l y) (by unfold QH;rw[d];rfl);unfold QH at this;rw[v l e] at this;cases this
 ·refine zf ?_;have q:∃(j:Nat) (l:zu),r.qc[j]?=some l/\¬QH D0 l.pred (zF l y):=by
   false_or_by_contra
   rename_i s;apply c;intro l e;obtain⟨i,F,rfl⟩:=qk e;false_or_by_contra
   rename_i d;exact s ⟨i,_,yp F,d⟩
  have f:∀n j:Nat,j=n->(∃l,r.qc[j]?=some l/\¬QH D0 l.pred (zF l y))->∃(j:Nat) (l:zu),r.qc[j]?=some l/\¬QH D0 l.pred (zF l y)/\∀(t:Nat) (a:zu),t<j->r.qc[t]?=some a->QH D0 a.pred (zF a y):=by
   intro n;induction n using Nat.strongRecOn with
   |_ n I=>
    rintro j rfl ⟨l,e,d⟩;by_cases b:∃(t:Nat) (a:zu),t<j/\r.qc[t]?=some a/\¬QH D0 a.pred (zF a y)
    ·obtain⟨t,a,k,h,o⟩:=b;exact I t k t rfl ⟨a,h,o⟩
    ·refine⟨j,l,e,d,fun t a k h=>?_⟩;false_or_by_contra
     rename_i o;exact b ⟨t,a,k,h,o⟩
  obtain⟨A,E,C,G⟩:=q;obtain⟨j,l,u,H,J⟩:=f A A rfl ⟨E,C,G⟩;exact⟨j,l,zv _,u,B l (dT u),H,fun t a w=>⟨fun z=>J t a z w,fun _=>B a (dT w)⟩,v⟩
theorem A0{ar:List Nat}{W wd k:Nat}(I:W=zM wd){D0 D:DB}{c0:List Nat}{R':zy}(s:∀p x,QH D0 p x->QH D p x)(j:R0 ar W k D c0 R')(Q:R'.count<=1048576)(a:Nat)(z:3*(W+1)<=a):
  ∀(d:List zu) (vs:List y6),vs.length=d.length->(∀l∈d,l.pred<ar.length)->(∀(i:Nat) (l:zu) (V:y6),d[i]?=some l->vs[i]?=some V->n9 V l W (QH D0 l.pred) (QH D l.pred) (fun x=>QH D l.pred x/\¬QH D0 l.pred x) (c0.getD l.pred 0)) →
   ∃b,dP a wd R'.qo vs=some b/\b.length=d.length/\∀(i:Nat) (l:zu) (V:y6),d[i]?=some l->b[i]?=some V->n9 V l W (QH D l.pred) (QH (zyl ar R') l.pred) (fun x=>QH (zyl ar R') l.pred x/\¬QH D l.pred x) ((R'.rows.map (·.count)).getD l.pred 0)
 |[],[],_,_,_=>⟨[],rfl,rfl,fun i l V h=>by simp at h⟩
 |[],V::vs,t,_,_=>by simp at t
 |l::d,[],t,_,_=>by simp at t
 |l::d,V::vs,t,J,H=>by
  have G:=H 0 l V rfl rfl;have w:=J l (by simp);have f:l.pred<R'.qo.length:=by rw[j.flen];exact w
  have g:l.pred<R'.rows.length:=by rw[j.inv.len];exact w
  have v:=j.qo l.pred f;have r:=j.cnts l.pred g;have C:=eA R'.rows l.pred g;rw[←j.inv.cnt] at C;have E:R'.qo.getD l.pred []=R'.qo[l.pred]:=QD _ f;rw[E] at r;obtain⟨F,N,o⟩:=BB G I R'.qo[l.pred] (fun x n=>(v.2 x n).2.1) (by omega) a z;obtain⟨b,P,O,M⟩:=A0 I s j Q a z d vs (by simpa using t) (fun x n=>J x (by simp[n])) (fun i B F A u=>H (i+1) B F (by simpa using A) (by simpa using u));have c:∀x,QH (zyl ar R') l.pred x↔QH D l.pred x∨x∈R'.qo[l.pred]:=by
   intro x;unfold QH;rw[j.abs,E];cases R:D l.pred x with
   |some m=>simp
   |none=>
    simp only;by_cases n:x∈R'.qo[l.pred]
    ·simp[n]
    ·simp[n]
  refine⟨F::b,?_,by simp[O],fun i B U A u=>?_⟩
  ·unfold dP;rw[G.lit,zc f,E,N,P]
  ·cases i with
   |zero=>
    simp only[f6,zt] at A u;subst A;subst u;refine⟨o.lit,o.before.congr fun x=>?_,o.qo.congr fun x=>?_,o.all.congr fun x=>(c x).symm,?_⟩
    ·constructor
     ·rintro(q|q)
      ·exact s _ x q
      ·exact q.1
     ·intro q;by_cases K:QH D0 l.pred x
      ·exact zf K
      ·exact zb ⟨q,K⟩
    ·constructor
     ·intro q;refine⟨(c x).2 (zb q),fun y=>?_⟩;unfold QH at y;rw[(v.2 x q).2.2] at y;cases y
     ·rintro⟨L,y⟩;exact((c x).1 L).resolve_left y
    ·have e:(R'.rows.map (·.count)).getD l.pred 0=R'.rows[l.pred].count:=by simp[List.getD,g]
     rw[e,r];exact o.few
   |succ i=>exact M i B U (by simpa using A) (by simpa using u)
theorem IF{k:Nat}(o:W=zM wd){D:DB}{c0:List Nat}{R':zy}(d:∀p x,QH D0 p x->QH D p x)(u:R0 ar W k D c0 R')(t:R'.count<=1048576)(a:Nat)(f:3*(W+1)<=a)(y:jM ar W D0 D c0 ws rs)(g:∀r∈rs,∀l∈r.qc,l.pred<ar.length):
  ∃b,gu a wd R'.qo ws=some b/\jM ar W D (zyl ar R') (R'.rows.map (·.count)) b rs:=by
 induction y with
 |nil=>exact⟨[],rfl,jM.nil⟩
 |@cons w r ws rs c m v=>
  obtain⟨b,s,q⟩:=v (fun x i=>g x (by simp[i]));obtain⟨e,n,h,j⟩:=A0 o d u t a f r.qc w.qm c.len (g r (by simp)) c.qm;refine⟨{w with qm:=e}::b,?_,jM.cons ⟨c.rule,h,j⟩ q⟩;unfold gu;rw[n,s]
def ju(rs:List zr)(D:DB)(p:Nat)(x:zm):Prop:=∃r∈rs,p=r.head.pred/\Sq r D x
noncomputable def zyr(rs:List zr)(k:Nat)(D:DB):DB:=fun p x=>match D p x with
 |some m=>some m
 |none=>if ju rs D p x then some k else none
theorem R0.clear{R:zy}(h:jp ar W R):R0 ar W R.qw (zyl ar R) (R.rows.map (·.count)) (qF R):=by
 have c:∀p,(List.replicate R.rows.length ([]:List zm)).getD p []=[]:=fun p=>by
  by_cases a:p<R.rows.length<;>simp[List.getD,a]
 refine⟨⟨h.len,h.tries,h.cnt⟩,rfl,by simp[qF,h.len],fun p a=>?_,fun p x=>?_,fun p a=>?_⟩
 ·simp only[qF,wO];exact⟨List.nodup_nil,fun x d=>by cases d⟩
 ·show zyl ar R p x=match zyl ar R p x with|some m=>some m|none=>if x∈(List.replicate R.rows.length ([]:List zm)).getD p [] then some R.qw else none
  rw[c];cases zyl ar R p x<;>simp
 ·show R.rows[p].count=(R.rows.map (·.count)).getD p 0+((List.replicate R.rows.length ([]:List zm)).getD p []).length;have b:p<R.rows.length:=a;rw[c,show(R.rows.map (·.count)).getD p 0=R.rows[p].count by simp[List.getD,b]];rfl
theorem R0.start{R:zy}(h:jp ar W R):R0 ar W (R.qw+1) (zyl ar R) (R.rows.map (·.count)) (qF {R with qw:=R.qw+1}):=
 R0.clear (R:={R with qw:=R.qw+1}) ⟨h.len,h.tries,h.cnt⟩
theorem K2(v:W=zM wd)(S:∀a∈ar,a<=3){mr:Nat}(D:mr<=1048576)(c:Nat)(hs:rU rs ar W)(w:(∀r∈rs,la W r<=c)/\3*(W+1)<=c)(first:Bool){R:zy}(P:jp ar W R)(Q:R.count<=mr)(k:∀p x,QH D0 p x->QH (zyl ar R) p x)(H:jM ar W D0 (zyl ar R) (R.rows.map (·.count)) ws rs)(A:first=false->∀p x,ju rs D0 p x->QH (zyl ar R) p x):
  ∃b h ok,nS c wd mr first ws R=some (b,h,ok)/\jp ar W b/\b.qw=R.qw+1/\(∀p x,QH (zyl ar b) p x->QH (zyr rs (R.qw+1) (zyl ar R)) p x)/\(ok=false->b.count>mr)/\(ok=true->b.count<=mr/\zyl ar b=zyr rs (R.qw+1) (zyl ar R)/\jM ar W (zyl ar R) (zyl ar b) (b.rows.map (·.count)) h rs):=by
 have J:0<W:=by rw[v];unfold zM;split<;>omega
 have C:=R0.start P;have z:∀q x,x∉(qF {R with qw:=R.qw+1}).qo.getD q []:=fun q x f=>by
  have:(List.replicate R.rows.length ([]:List zm)).getD q []=[]:=by by_cases N:q<R.rows.length<;>simp[List.getD,N]
  have t:x∈(List.replicate R.rows.length ([]:List zm)).getD q []:=f;rw[this] at t;cases t
 obtain⟨b,ok,K,g,T,F⟩:=L4 (wd:=wd) (Dm ar R) k S J D c hs w.1 first H (fun r s=>s) (qF {R with qw:=R.qw+1}) C Q (fun q x f=>zC f (z q x))
 have d:∀p x,x∈b.qo.getD p []->ju rs (zyl ar R) p x:=fun p x f=>(g.sound p x f).resolve_left (z p x);have j:∀p x,QH (zyl ar b) p x->QH (zyr rs (R.qw+1) (zyl ar R)) p x:=by
  intro p x f;unfold QH at f ⊢;rw[g.mid.abs] at f;unfold zyr;cases u:zyl ar R p x with
  |some m=>rfl
  |none=>
   rw[u] at f;by_cases o:x∈b.qo.getD p []
   ·rw[zc (d p x o)];rfl
   ·rw[za o] at f;cases f
 unfold nS;rw[K];cases ok with
 |false=>exact⟨b,ws,false,rfl,g.mid.inv,g.mid.qw,j,fun _=>g.no rfl,fun q=>by cases q⟩
 |true=>
  have i:=g.yes rfl;obtain⟨h,O,L⟩:=IF v k g.mid (by omega) c w.2 H (fun r s l M=>((hs.rules r s).qc l M).1);simp only[O,jA];refine⟨b,h,true,rfl,g.mid.inv,g.mid.qw,j,fun q=>(by cases q),fun _=>⟨i,?_,L⟩⟩;have n:∀p x,ju rs (zyl ar R) p x->QH (zyl ar b) p x:=by
   rintro p x ⟨r,s,rfl,y,G,I,rfl⟩;cases first with
   |true=>exact F rfl r s _ (by simp only[pk,if_true];exact⟨y,G,I,rfl⟩)
   |false=>
    rcases FX k G I with q|q
    ·exact F rfl r s _ (by simp only[pk];exact⟨y,q,rfl⟩)
    ·have E:=A rfl r.head.pred _ ⟨r,s,rfl,q⟩;unfold QH at E ⊢;rw[g.mid.abs];cases u:zyl ar R r.head.pred (zF r.head y) with
     |some m=>rfl
     |none=>rw[u] at E;cases E
  funext p x;have B:=g.mid.abs p x;unfold zyr;rw[B];cases u:zyl ar R p x with
  |some m=>rfl
  |none=>
   rw[u] at B;by_cases e:ju rs (zyl ar R) p x
   ·have:=n p x e;unfold QH at this;rw[B] at this;by_cases o:x∈b.qo.getD p []
    ·rw[zc o,zc e]
    ·rw[za o] at this;cases this
   ·rw[za e,za (fun o=>e (d p x o))]
end
end Go.Proofs.YteampbddflhngaaGreat
