import Derived.Test.YteampbddflhngaaGreatV01
namespace Go.Proofs.YteampbddflhngaaGreat
section
variable {r:zr}{i:Nat}{hs:List (Nat×Nat)}
structure fw (r:zr):Prop where
 vars:r.vars<=5
 qg:∀l∈r.qc,l.qg.length<=3
 qc:∀l∈r.qc,∀p,zL l p=true->p<r.vars
 qp:∀l∈r.qp,∀p,zL l p=true->p<r.vars
 head:∀p,zL r.head p=true->p<r.vars
 safe:∀p,p<r.vars->∃l∈r.qc,zL l p=true
structure gM (r:zr) (Ts:List zi) (W:Nat):Prop where
 len:Ts.length=r.qc.length
 ok:∀(i:Nat) (l:zt) (T:zi),r.qc[i]?=some l->Ts[i]?=some T->vf T/\T.ql=yY (yR l)/\T.qf<=W
structure qM (r:zr) (Ts Ns:List zi) (J:z9):Prop where
 head:J.head=r.head
 vars:J.vars=r.vars
 je:J.je=(List.range 5).map (xy r)
 jg:J.jg=(List.range 5).map fun p=>xE r (p:Nat)
 last:J.last=xE r r.vars
 bars:J.bars=(r.qp.zip Ns).map fun x=>⟨x.1,uC x.1,x.2⟩
 ja:J.ja.map (·.rows)=Ts
 vlen:J.qy.length=5
 flen:J.from.length=5
theorem nu(l:zt){x y:List Nat}(h:∀p,zL l p=true->x.getD p 0=y.getD p 0):zG l x=zG l y:=by
 have a:∀i,Pa l x i=Pa l y i:=by
  intro i;unfold Pa;split
  ·rename_i c;unfold Qj;rw[show l.qg.getD i ⟨false,0,0⟩=l.qg[i] by simp[List.getD,c]];split
   ·rename_i b;simp only[uZ,decide_eq_true_eq] at b;exact h _ ((fd l _).2 ⟨_,zu c,b.1,rfl⟩)
   ·rfl
  ·rfl
 unfold zG;rw[a,a,a]
def sw(T:zi)(l:zt)(y:List Nat):Prop:=(yR l=0->T.count≠0)/\(yR l≠0->(uf T (ym l y 5)).isSome=true)
def qP(r:zr)(a Ns:List zi)(y:List Nat):Prop:=(∀(i:Nat) (l:zt) (T:zi),r.qc[i]?=some l->a[i]?=some T->sw T l y)/\∀x∈r.qp.zip Ns,xB x.2 (zG x.1 y)=none
theorem Ks{l:zt}(a:∀p,zL l p=true->p<r.vars){d:Nat}(b:r.vars<=d):y9 l d=y9 l r.vars:=by
 induction b with
 |refl=>rfl
 |@step m h c=>
  rw[lf,za (fun q=>by have:=a _ q;have:r.vars<=m:=h;omega),c]
theorem M5(a:r.vars<=5){l:zt}(b:∀p,zL l p=true->p<r.vars)(y:List Nat):ym l y 5=ym l y r.vars:=by
 unfold ym;rw[Ks b a]
def LD(r:zr)(J:z9)(d:Nat):Prop:=∀(i:Nat) (l:zt) (s:xC),r.qc[i]?=some l->J.ja[i]?=some s->s.qi.length=3/\(∀k,k<=(y9 l d).length->k<3->PG s.rows 0 ((ym l J.qy d).take k)=some (s.qi.getD k 0))/\(PG s.rows 0 (ym l J.qy d)).isSome=true
def Ll(r:zr)(Ns:List zi)(vals:List Nat)(d:Nat):Prop:=∀x∈r.qp.zip Ns,uC x.1<=d->xB x.2 (zG x.1 vals)=none
theorem Bi{d b:Nat}(h:(i,b)∈xy r d):∃l,r.qc[i]?=some l/\zL l d=true/\b=(y9 l d).length:=by
 unfold xy at h;simp only[lh,vr,yo] at h;obtain⟨⟨l,j⟩,g,f,a,e,k⟩:=h;rw[ef] at a;split at a
 ·rename_i c;simp only[zs] at a;have:=n8.1 g;simp only at this e c a;subst e;exact⟨l,this,c,by omega⟩
 ·cases a
theorem Qq{d:Nat}{l:zt}(h:r.qc[i]?=some l)(a:zL l d=true):(i,(y9 l d).length)∈xy r d:=by
 unfold xy;simp only[lh,vr,yo];refine⟨(l,i),n8.2 h,(y9 l d).length,?_,rfl,rfl⟩;rw[ef,zb a]
theorem Ep(r:zr)(d:Nat):((xy r d).map (·.1)).Nodup:=by
 unfold xy;have f:∀(b:List zt) (n:Nat),(((b.zipIdx n).filterMap fun x=>(yX x.1 d).map fun c=>(x.2,c)).map (·.1)).Nodup/\∀i∈((b.zipIdx n).filterMap fun x=>(yX x.1 d).map fun c=>(x.2,c)).map (·.1),n<=i:=by
  intro b;induction b with
  |nil=>intro n;simp
  |cons l b k=>
   intro n;obtain⟨h,g⟩:=k (n+1);rw[List.zipIdx_cons,List.filterMap_cons];cases j:(yX l d).map fun c=>(n,c) with
   |none=>exact⟨h,fun i e=>by have:=g i e;omega⟩
   |some x=>
    have o:x.1=n:=by
     simp only[vr] at j;obtain⟨a,_,rfl⟩:=j;rfl
    simp only[jx,jB,zw];refine⟨⟨fun m=>by have:=g _ m;omega,h⟩,?_⟩;rintro i (rfl|e)
    ·omega
    ·have:=g i e;omega
 exact(f r.qc 0).1
def setDown(v a:Nat)(s:xC):xC:=if a+1≥3 then s else{s with qi:=s.qi.set (a+1) ((zH s.rows (s.qi.getD a 0) v).getD 0)}
theorem Lw{J:z9}{v:Nat}{h:Nat×Nat}(hs:vu J h=true):vU v J h={J with ja:=J.ja.set h.1 (setDown v h.2 (J.ja.getD h.1 xC.zero))}:=by
 unfold vU setDown;by_cases a:h.2+1≥3
 ·rw[zb (ze a),zb a];have b:h.1<J.ja.length:=by simp only[vu,uZ,decide_eq_true_eq] at hs;exact hs.1
  have:J.ja.set h.1 (J.ja.getD h.1 xC.zero)=J.ja:=by
   rw[show J.ja.getD h.1 xC.zero=J.ja[h.1] by simp[List.getD,b]];exact sW _
  rw[this]
 ·rw[za (by rintro(q|q);rw[hs] at q;cases q;exact a q),za a]
theorem oP(v:Nat):∀(hs:List (Nat×Nat)) (J:z9),(hs.map (·.1)).Nodup->(∀h∈hs,vu J h=true)->∃c,hs.foldl (vU v) J={J with ja:=c}/\c.length=J.ja.length/\∀i s,J.ja[i]?=some s->c[i]?=some (match hs.lookup i with|none=>s|some e=>setDown v e s)
 |[],J,_,_=>⟨J.ja,rfl,rfl,fun i s h=>by simpa using h⟩
 |(j,e)::hs,J,f,d=>by
  simp only[uv];have g:=d (j,e) (by simp);rw[Lw g];simp only;have k:j<J.ja.length:=by simp only[vu,uZ,decide_eq_true_eq] at g;exact g.1
  simp only[jx,jB] at f;obtain⟨c,n,t,m⟩:=oP v hs {J with ja:=J.ja.set j (setDown v e (J.ja.getD j xC.zero))} f.2 (fun h u=>by
   have:=d h (by simp[u]);unfold vu at this ⊢;simpa using this)
  refine⟨c,n,by simpa using t,fun i s l=>?_⟩;by_cases a:i=j
  ·subst a;have w:J.ja.getD i xC.zero=s:=by simp[List.getD,l]
   have:=m i (setDown v e s) (by rw[w];simp[k]);rw[this];have b:hs.lookup i=none:=by
    rw[List.lookup_eq_none_iff];intro x o;have:x.1≠i:=by
     rintro rfl;exact f.1 (zB.2 ⟨x,o,rfl⟩)
    simpa using fun q=>this q.symm
   rw[b];simp[List.lookup]
  ·have:=m i s (by simp only[p3,Ne.symm a,if_false];exact l);rw[this];have p:(i == j)=false:=by simp[a]
   simp[List.lookup,p]
theorem ML{d:Nat}(c:(hs.map (·.1)).Nodup)(f:(i,d)∈hs):hs.lookup i=some d:=by
 induction hs with
 |nil=>cases f
 |cons a hs h=>
  obtain⟨j,m⟩:=a;simp only[jx,jB] at c;rcases zw.1 f with e|b
  ·simp only[yo] at e;obtain⟨rfl,rfl⟩:=e;simp[List.lookup]
  ·have:i≠j:=by
    rintro rfl;exact c.1 (zB.2 ⟨(i,d),b,rfl⟩)
   have g:(i == j)=false:=by simp[this]
   simp only[List.lookup,g];exact h c.2 b
theorem Jr(h:∀a,(i,a)∉hs):hs.lookup i=none:=by
 rw[List.lookup_eq_none_iff];rintro⟨j,m⟩ b;have:i≠j:=by rintro rfl;exact h m b
 simpa using this
end
section
variable {r:zr}{Ts Ns:List zi}{J:z9}
structure Qi (r:zr) (Ts Ns:List zi) (W:Nat) (J:z9) (d:Nat):Prop where
 stat:qM r Ts Ns J
 qi:LD r J d
 nob:Ll r Ns J.qy d
 «from» : ∀i,i<d->J.from.getD i 0=J.qy.getD i 0+1
 small:∀i,i<d->J.qy.getD i 0<W
theorem qM.same{a:z9}(h:qM r Ts Ns J)(s:ku J a):qM r Ts Ns a:=by
 rw[s];exact⟨h.head,h.vars,h.je,h.jg,h.last,h.bars,h.ja,h.vlen,h.flen⟩
theorem Qi.same{r:zr}{Ts Ns:List zi}{W:Nat}{J a:z9}{d:Nat}(h:Qi r Ts Ns W J d)(s:ku J a):Qi r Ts Ns W a d:=by
 refine⟨h.stat.same s,?_,?_,?_,?_⟩
 ·rw[s];exact h.qi
 ·rw[s];exact h.nob
 ·rw[s];exact h.from
 ·rw[s];exact h.small
theorem Qi.back{W d b:Nat}(h:Qi r Ts Ns W J d)(c:b<=d):Qi r Ts Ns W J b:=by
 refine⟨h.stat,fun i l s t p=>?_,fun x n f=>h.nob x n (by omega),fun i j=>h.from i (by omega),fun i j=>h.small i (by omega)⟩;obtain⟨m,g,e⟩:=h.qi i l s t p;have o:=(eV l c).length_le;refine⟨m,fun k f u=>?_,?_⟩
 ·rw[iy l J.qy c,List.take_take,gP f];exact g k (by omega) u
 ·rw[iy l J.qy c];have a:ym l J.qy d=(ym l J.qy d).take (y9 l b).length++(ym l J.qy d).drop (y9 l b).length:=(qO _ _).symm;rw[a,m7] at e;cases q:PG s.rows 0 ((ym l J.qy d).take (y9 l b).length) with
  |none=>rw[q] at e;cases e
  |some x=>rfl
theorem qM.side(h:qM r Ts Ns J){i:Nat}{s:xC}(a:J.ja[i]?=some s):Ts[i]?=some s.rows:=by
 rw[←h.ja];simp[a]
theorem qM.some{r:zr}{Ts Ns:List zi}{W:Nat}{J:z9}(h:qM r Ts Ns J)(b:gM r Ts W){i:Nat}{l:zt}(a:r.qc[i]?=some l):∃s,J.ja[i]?=some s:=by
 have d:J.ja.length=r.qc.length:=by rw[←b.len,←h.ja];simp
 have c:=(jG.1 a).1;exact⟨_,yq (by omega)⟩
theorem qM.holdsAt(h:qM r Ts Ns J){d:Nat}(a:d<5):J.je.getD d []=xy r d:=by
 rw[h.je];simp[List.getD,a]
theorem Qi.hold{W d:Nat}(h:Qi r Ts Ns W J d)(q:fw r)(k:gM r Ts W){x:Nat×Nat}(n:x∈xy r d):
  ∃l s,r.qc[x.1]?=some l/\J.ja[x.1]?=some s/\zL l d=true/\x.2=(y9 l d).length/\x.2<3/\vu J x=true/\vf s.rows/\s.rows.qf<=W/\∀v,PG s.rows 0 (ym l J.qy d++[v])=jy J x v:=by
 obtain⟨i,g⟩:=x;obtain⟨l,a,j,c⟩:=Bi n;obtain⟨s,b⟩:=h.stat.some k a;have o:(y9 l (d+1)).length=g+1:=by rw[lf,zb j,c];simp
 have e:g<3:=by
  have:=eb l (d+1);have:=q.qg l (gz a);omega
 have f:=(jG.1 b).1;obtain⟨t,w,p⟩:=k.ok i l s.rows a (h.stat.side b);refine⟨l,s,a,b,j,c,e,by simp[vu,f,e],t,p,fun v=>?_⟩;obtain⟨u,m,y⟩:=h.qi i l s a b;have:=m g (by omega) e;rw[c,show(ym l J.qy d).take (y9 l d).length=ym l J.qy d by rw[←mG l J.qy d];exact uO] at this;rw[m7,this];unfold jy;simp only[List.getD,b,uo,Option.bind_some,PG,c];cases zH s.rows _ v<;>rfl
theorem sA(h:qM r Ts Ns J)(k:Nat):uB J k=true↔∃x∈r.qp.zip Ns,uC x.1=k/\(xB x.2 (zG x.1 J.qy)).isSome=true:=by
 unfold uB;rw[h.bars,List.any_map,kY];simp
theorem Qi.take{r:zr}{Ts Ns:List zi}{W:Nat}{J:z9}{d v:Nat}(h:Qi r Ts Ns W J d)(hr:fw r)(Z:gM r Ts W)(hd:d<r.vars)(hv:∀x∈xy r d,(jy J x v).isSome=true)(hW:v<W):
  (uE J d v).qy=J.qy.set d v/\(∀i,i<d->(uE J d v).from.getD i 0=J.from.getD i 0)/\(uE J d v).from.getD d 0=v+1/\(d+1<5->(uE J d v).from.getD (d+1) 0=0)/\Qi r Ts Ns W (uE J d v) d/\(uB (uE J d v) (d+1)=false->Qi r Ts Ns W (uE J d v) (d+1)):=by
 have ab:=hr.vars;have aa:d<5:=by omega
 have Y:=h.stat.vlen;have S:=h.stat.flen;unfold uE;rw[za (by omega),h.stat.holdsAt aa];obtain⟨Q,e1,e2,e3⟩:=oP v (xy r d) {J with qy:=J.qy.set d v,«from»:=(if d+1<5 then(J.from.set d (v+1)).set (d+1) 0 else J.from.set d (v+1))} (Ep r d) (fun x t=>by
  obtain⟨_,_,_,_,_,_,_,q,_⟩:=h.hold hr Z t;unfold vu at q ⊢;exact q)
 rw[e1];simp only at e2 e3 ⊢;have C:∀i,i<d->(if d+1<5 then(J.from.set d (v+1)).set (d+1) 0 else J.from.set d (v+1)).getD i 0=J.from.getD i 0:=by
  intro i F;split
  ·rw[ur,za (by omega),ur,za (by omega)]
  ·rw[ur,za (by omega)]
 have N:(if d+1<5 then(J.from.set d (v+1)).set (d+1) 0 else J.from.set d (v+1)).getD d 0=v+1:=by
  split
  ·rw[ur,za (by omega),ur,zb ⟨rfl,by omega⟩]
  ·rw[ur,zb ⟨rfl,by omega⟩]
 have B:Q.map (·.rows)=Ts:=by
  rw[←h.stat.ja];refine mo fun i=>?_;simp only[hX];cases j:J.ja[i]? with
  |none=>
   have:J.ja.length<=i:=List.getElem?_eq_none_iff.1 j;rw[kR (by omega)]
  |some s=>
   rw[e3 i s j];simp only[jZ,zs];cases (xy r d).lookup i with
   |none=>rfl
   |some U=>simp only[setDown];split<;>rfl
 have e:qM r Ts Ns {J with ja:=Q,qy:=J.qy.set d v,«from»:=(if d+1<5 then(J.from.set d (v+1)).set (d+1) 0 else J.from.set d (v+1))}:=⟨h.stat.head,h.stat.vars,h.stat.je,h.stat.jg,h.stat.last,h.stat.bars,B,by simpa using Y,by show(if d+1<5 then(J.from.set d (v+1)).set (d+1) 0 else J.from.set d (v+1)).length=5;split<;>simpa using S⟩;have u:∀l:zt,ym l (J.qy.set d v) d=ym l J.qy d:=fun l=>sy l fun p w _=>by rw[ur,za (by omega)]
 have f:∀(i:Nat) (l:zt) (s c:xC),r.qc[i]?=some l->J.ja[i]?=some s->Q[i]?=some c->c.qi.length=3/\(∀k,k<=(y9 l d).length->k<3->PG c.rows 0 ((ym l J.qy d).take k)=some (c.qi.getD k 0))/\(PG c.rows 0 (ym l J.qy d)).isSome=true/\(∀k,k<=(y9 l (d+1)).length->k<3->PG c.rows 0 ((ym l (J.qy.set d v) (d+1)).take k)=some (c.qi.getD k 0))/\(PG c.rows 0 (ym l (J.qy.set d v) (d+1))).isSome=true:=by
  intro i l s c g j a;obtain⟨n1,R,V⟩:=h.qi i l s g j;rw[e3 i s j] at a;by_cases H:zL l d=true
  ·have E:=Qq g H;rw[ML (Ep r d) E] at a;simp only[zs] at a;obtain⟨l',s0,y,I,_,q4,q5,_,_,_,q9⟩:=h.hold hr Z E;simp only at y I q5;rw[g] at y;rw[j] at I;simp only[zs] at y I;subst y;subst I;have G:=hv _ E;obtain⟨bb,D⟩:=mi.1 G;have z:=q9 v;rw[D] at z;have w:ym l (J.qy.set d v) (d+1)=ym l J.qy d++[v]:=by rw[oY l _ _ _ (by omega),zb H]
   have b:c.rows=s.rows:=by rw[←a];unfold setDown;split<;>rfl
   have M:(ym l J.qy d).length=(y9 l d).length:=mG _ _ _;have K:∀k,k<=(y9 l d).length->c.qi.getD k 0=s.qi.getD k 0:=by
    intro k o;rw[←a];unfold setDown;split
    ·rfl
    ·rw[ur,za (by omega)]
   have X:zH s.rows (s.qi.getD (y9 l d).length 0) v=some bb:=by
    unfold jy at D;simpa [List.getD,j] using D
   refine⟨by rw[←a];unfold setDown;split<;>simp[n1],fun k o h3=>by rw[b,K k o];exact R k o h3,by rw[b];exact V,fun k o h3=>?_,by rw[b,w,z];rfl⟩;rw[b,w];rw[lf,zb H,yz,List.length_singleton] at o;by_cases O:k<=(y9 l d).length
   ·rw[List.take_append_of_le_length (by omega),K k O];exact R k O h3
   ·have:k=(y9 l d).length+1:=by omega
    subst this;rw[xk (by simp[M]),z,←a];unfold setDown;rw[za (by omega)];simp only;rw[ur,zb ⟨rfl,by omega⟩,X];rfl
  ·have T:∀U,(i,U)∉xy r d:=fun U E=>by
    obtain⟨l',y,I,_⟩:=Bi E;rw[g] at y;simp only[zs] at y;subst y;exact H I
   rw[Jr T] at a;simp only[zs] at a;subst a;have w:ym l (J.qy.set d v) (d+1)=ym l J.qy d:=by rw[oY l _ _ _ (by omega),za H]
   have G:y9 l (d+1)=y9 l d:=by rw[lf,za H]
   exact⟨n1,R,V,by rw[w,G];exact R,by rw[w];exact V⟩
 have n:=fun(i:Nat) (l:zt) (c:xC) (g:r.qc[i]?=some l) (_:Q[i]?=some c)=>h.stat.some Z g;have L:∀x∈r.qp.zip Ns,uC x.1<=d->zG x.1 (J.qy.set d v)=zG x.1 J.qy:=fun x _ o=>nu x.1 fun p w=>by
  have:=tA x.1 w;rw[ur,za (by omega)]
 refine⟨trivial,C,N,fun h5=>?_,⟨e,fun i l c g a=>?_,fun x t o=>?_,fun i F=>?_,fun i F=>?_⟩,fun hb=>⟨e,fun i l c g a=>?_,fun x t o=>?_,fun i F=>?_,fun i F=>?_⟩⟩
 ·rw[zb h5,ur,zb ⟨rfl,by simp;omega⟩]
 ·obtain⟨s,j⟩:=n i l c g a;obtain⟨a1,a2,a3,_,_⟩:=f i l s c g j a;exact⟨a1,by rw[u];exact a2,by rw[u];exact a3⟩
 ·show xB x.2 (zG x.1 (J.qy.set d v))=none;rw[L x t o];exact h.nob x t o
 ·show(if d+1<5 then _ else _:List Nat).getD i 0=(J.qy.set d v).getD i 0+1;rw[C i F,ur,za (by omega)];exact h.from i F
 ·show(J.qy.set d v).getD i 0<W;rw[ur,za (by omega)];exact h.small i F
 ·obtain⟨s,j⟩:=n i l c g a;obtain⟨a1,_,_,a4,a5⟩:=f i l s c g j a;exact⟨a1,a4,a5⟩
 ·show xB x.2 (zG x.1 (J.qy.set d v))=none;by_cases P:uC x.1<=d
  ·rw[L x t P];exact h.nob x t P
  ·cases E:xB x.2 (zG x.1 (J.qy.set d v)) with
   |none=>rfl
   |some m=>
    have:=(sA e (d+1)).2 ⟨x,t,by omega,by show(xB x.2 (zG x.1 (J.qy.set d v))).isSome=true;rw[E];rfl⟩;rw[hb] at this;cases this
 ·show(if d+1<5 then _ else _:List Nat).getD i 0=(J.qy.set d v).getD i 0+1;by_cases A:i=d
  ·subst A;rw[N,ur,zb ⟨rfl,by omega⟩]
  ·rw[C i (by omega),ur,za (by omega)];exact h.from i (by omega)
 ·show(J.qy.set d v).getD i 0<W;by_cases A:i=d
  ·subst A;rw[ur,zb ⟨rfl,by omega⟩];exact hW
  ·rw[ur,za (by omega)];exact h.small i (by omega)
end
section
variable {d W:Nat}{Ts Ns:List zi}
def I9(d:Nat)(vals:List Nat)(f:Nat)(y:List Nat):Prop:=(∀p,p<d->y.getD p 0=vals.getD p 0)/\f<=y.getD d 0∨∃i,i<d/\(∀p,p<i->y.getD p 0=vals.getD p 0)/\vals.getD i 0<y.getD i 0
def QR(r:zr)(Ts Ns:List zi)(E:zk->Prop)(d:Nat)(vals:List Nat)(f:Nat):Prop:=∀y,qP r Ts Ns y->E (zG r.head y)∨I9 d vals f y
theorem Ig{l:zt}{e:Nat}(a:∀p,zL l p=true->p<d)(b:d<=e):y9 l e=y9 l d:=by
 induction b with
 |refl=>rfl
 |@step m h c=>
  rw[lf,za (fun q=>by have:=a _ q;have:d<=m:=h;omega),c]
def lW(d:Nat)(vals y:List Nat):List Nat:=(List.range 5).map fun p=>if p<d then vals.getD p 0 else y.getD p 0
theorem wP(d:Nat)(vals y:List Nat){p:Nat}(a:p<5):(lW d vals y).getD p 0=if p<d then vals.getD p 0 else y.getD p 0:=by
 simp[lW,List.getD,a]
theorem Mk{T:zi}{a:Nat}{p q:zk}(h:(PG T a (p++q)).isSome=true):(PG T a p).isSome=true:=by
 rw[m7] at h;cases b:PG T a p with
 |none=>rw[b] at h;cases h
 |some x=>rfl
theorem Qi.mix{r:zr}{J:z9}(h:Qi r Ts Ns W J d)(k:fw r)(C:gM r Ts W)(E:d<=r.vars){y:List Nat}(q:qP r Ts Ns y)(A:∀p:Nat,(p:Int)<=xE r (d:Nat)->y.getD p 0=J.qy.getD p 0):qP r Ts Ns (lW d J.qy y)/\zG r.head (lW d J.qy y)=zG r.head y:=by
 obtain⟨_,_,D,w,z⟩:=im r (jd:=(d:Nat)) (by omega);have B:=k.vars;have m:∀{l:zt},(∀p,zL l p=true->p<r.vars)->(∀p,zL l p=true->p<d)->∀p,zL l p=true->(lW d J.qy y).getD p 0=J.qy.getD p 0:=fun g b p c=>by
  have:=g p c;rw[wP d _ _ (by omega),zb (b p c)]
 have j:∀{l:zt},(∀p,zL l p=true->p<r.vars)->(∀p,zL l p=true->p<d->(p:Int)<=xE r (d:Nat))->∀p,zL l p=true->(lW d J.qy y).getD p 0=y.getD p 0:=fun g b p c=>by
  have:=g p c;rw[wP d _ _ (by omega)];split
  ·rename_i t;exact(A p (b p c t)).symm
  ·rfl
 refine⟨⟨fun i l T g u=>⟨fun o=>(q.1 i l T g u).1 o,fun o=>?_⟩,fun x n=>?_⟩,nu _ (j k.head fun p c b=>by have:=eZ r.head (jd:=((d:Nat):Int)) c (by omega);omega)⟩
 ·have a:=gz g;rcases AV (w l a) with b|b
  ·obtain⟨s,v⟩:=h.stat.some C g;have f:=h.stat.side v;rw[u] at f;simp only[zs] at f;have e:ym l (lW d J.qy y) 5=ym l J.qy d:=by
    rw[sy l (y:=J.qy) fun p _ c=>m (k.qc l a) b p c];unfold ym;rw[Ig b (by omega)]
   rw[e,f];exact(h.qi i l s g v).2.2
  ·rw[sy l (y:=y) fun p _ c=>j (k.qc l a) b p c];exact(q.1 i l T g u).2 o
 ·have a:=(List.of_mem_zip n).1;rcases AV (z x.1 a) with b|b
  ·rw[nu x.1 (m (k.qp x.1 a) b)];exact h.nob x n (Bz x.1 b)
  ·rw[nu x.1 (j (k.qp x.1 a) b)];exact q.2 x n
theorem Qi.sol{r:zr}{J:z9}(h:Qi r Ts Ns W J d)(b:fw r)(v:gM r Ts W)(w:d<r.vars){y:List Nat}(f:qP r Ts Ns y)(m:∀p,p<d->y.getD p 0=J.qy.getD p 0):∀x∈xy r d,(jy J x (y.getD d 0)).isSome=true:=by
 intro x i;obtain⟨l,s,o,k,c,_,_,_,_,_,n⟩:=h.hold b v i;have u:=b.vars;have t:=h.stat.side k;have j:yR l≠0:=by
  rw[gZ];intro q;have:d∈y9 l 5:=(pk l 5 d).2 ⟨by omega,c⟩;rw[mw.1 q] at this;cases this
 have a:=(f.1 x.1 l s.rows o t).2 j;rw[←n];have e:ym l J.qy d++[y.getD d 0]=ym l y (d+1):=by
  have:ym l y d=ym l J.qy d:=sy l fun p g _=>m p g;unfold ym at this ⊢;rw[lf,zb c,vB,this];rfl
 rw[e,iy l y (show d+1<=5 by omega)];unfold uf at a;rw[←qO (y9 l (d+1)).length (ym l y 5)] at a;exact Mk a
def nI(W:Nat):Nat->Nat
 |0=>1
 |j+1=>W*(1+nI W j)+1
def fz(W vars d f:Nat):Nat:=(W-f)*(1+nI W (vars-d-1))+1
def gO(W vars:Nat)(vals:List Nat):Nat->Nat
 |0=>0
 |d+1=>gO W vars vals d+fz W vars d (vals.getD d 0+1)
def vi(W vars d:Nat)(vals:List Nat)(f:Nat):Nat:=gO W vars vals d+if d<vars then fz W vars d f else 1
theorem BV(W vars:Nat){x y:List Nat}:∀d,(∀p,p<d->x.getD p 0=y.getD p 0)->gO W vars x d=gO W vars y d
 |0,_=>rfl
 |d+1,h=>by simp only[gO];rw[BV W vars d (fun p a=>h p (by omega)),h d (by omega)]
theorem LM(W vars:Nat)(vals:List Nat){a b:Nat}(h:a<=b):gO W vars vals a<=gO W vars vals b:=by
 induction h with
 |refl=>exact zh _
 |step h c=>simp only[gO];omega
theorem GK{vars f v:Nat}{vals:List Nat}(a:d<vars)(h:d<vals.length)(n:f<=v)(l:v<W):vi W vars (d+1) (vals.set d v) 0<vi W vars d vals f/\vi W vars d (vals.set d v) (v+1)<vi W vars d vals f:=by
 have b:gO W vars (vals.set d v) d=gO W vars vals d:=BV W vars d fun p k=>by rw[ur,za (by omega)]
 have g:(vals.set d v).getD d 0=v:=by rw[ur,zb ⟨rfl,h⟩]
 have e:(if d+1<vars then fz W vars (d+1) 0 else 1)=nI W (vars-d-1):=by
  split
  ·obtain⟨j,c⟩:∃j,vars-d-1=j+1:=⟨vars-d-2,by omega⟩;rw[c];unfold fz;rw[show vars-(d+1)-1=j by omega,Nat.sub_zero];rfl
  ·rw[show vars-d-1=0 by omega];rfl
 have i:fz W vars d f=fz W vars d (v+1)+(v+1-f)*(1+nI W (vars-d-1)):=by
  unfold fz;rw[show W-f=(W-(v+1))+(v+1-f) by omega,Nat.add_mul];omega
 have m:1*(1+nI W (vars-d-1))<=(v+1-f)*(1+nI W (vars-d-1)):=pM _ (by omega);refine⟨?_,?_⟩
 ·unfold vi;rw[zb a,e];simp only[gO];rw[b,g];omega
 ·unfold vi;rw[zb a,zb a,b];omega
theorem Ak(W vars d:Nat)(vals:List Nat)(f:Nat):1<=vi W vars d vals f:=by
 unfold vi;split
 ·unfold fz;omega
 ·omega
theorem Be{vars b f:Nat}{vals:List Nat}(g:d<=vars)(e:b<d):vi W vars b vals (vals.getD b 0+1)<vi W vars d vals f:=by
 have a:vi W vars b vals (vals.getD b 0+1)=gO W vars vals (b+1):=by
  unfold vi;rw[zb (by omega)];rfl
 have h:=LM W vars vals (show b+1<=d by omega);have c:1<=if d<vars then fz W vars d f else 1:=by
  split
  ·unfold fz;omega
  ·omega
 rw[a];unfold vi;omega
def Lv(r:zr)(Ts Ns:List zi)(W:Nat)(E:zk->Prop)(M:Nat)(a:z9):Bool->Prop
 |true=>Qi r Ts Ns W a r.vars/\QR r Ts Ns E r.vars a.qy 0/\vi W r.vars r.vars a.qy 0<=M
 |false=>(∀y,qP r Ts Ns y->E (zG r.head y))/\qM r Ts Ns a
theorem qM.ok{r:zr}{Ts Ns:List zi}{W:Nat}{J:z9}(h:qM r Ts Ns J)(e:gM r Ts W):eH J:=by
 intro i;cases b:J.ja[i]? with
 |none=>
  have:J.ja.getD i xC.zero=xC.zero:=by simp[List.getD,b]
  rw[this];intro a j;simp[xC.zero] at j
 |some s=>
  have:J.ja.getD i xC.zero=s:=by simp[List.getD,b]
  rw[this];have c:=h.side b;have g:i<r.qc.length:=by rw[←e.len];exact(jG.1 c).1
  obtain⟨⟨f,hinv⟩,_⟩:=(e.ok i _ _ (yq g) c).1;exact hinv.node
theorem G9{r:zr}(F:fw r)(I:gM r Ts W)(E:zk->Prop)(A:Nat)(hA:W*(r.qc.length+1)+r.qc.length<=A):
  ∀(n:Nat) (J:z9) (d f:Nat),Qi r Ts Ns W J d->d<=r.vars->(d<r.vars->J.from.getD d 0=f)->QR r Ts Ns E d J.qy f->vi W r.vars d J.qy f+A<n->∃M b,kl n J (d:Nat)=some (M,b)/\Lv r Ts Ns W E (vi W r.vars d J.qy f) M b:=by
 intro n;induction n with
 |zero=>intro J d f _ _ _ _ h;omega
 |succ n ih=>
  intro J d f h hd Z X hn;have ap:=F.vars;have ak:=Ak W r.vars d J.qy f;unfold kl;have P:=h.stat.vars;by_cases g:d<r.vars
  ·rw[zb ⟨by omega,by rw[P];omega,by omega⟩];simp only[Int.toNat_natCast];have a:=h.stat.holdsAt (show d<5 by omega);have V:J.je.getD d []≠[]:=by
    rw[a];obtain⟨l,ai,ad⟩:=F.safe d g;obtain⟨i,hi,rfl⟩:=vl ai;intro q;have:=Qq (yq hi) ad;rw[q] at this;cases this
   have al:(xy r d).length<=r.qc.length:=by
    unfold xy;refine zT (ra _ _) ?_;simp
   have am:W*((xy r d).length+1)+(xy r d).length<=A:=by
    have:W*((xy r d).length+1)<=W*(r.qc.length+1):=Nat.mul_le_mul_left _ (by omega);omega
   obtain⟨D,ah,a1,a2,a3⟩:=LQ W J d (J.from.getD d 0) n (by omega) (h.stat.ok I) V (by
    rw[a];intro x B;obtain⟨_,_,_,_,_,_,_,q,_⟩:=h.hold F I B;exact q) (by
    rw[a];intro x B v hv;obtain⟨l,s,_,u,_,_,_,_,_,q8,_⟩:=h.hold F I B;unfold jy at hv;obtain⟨b,C⟩:=mi.1 hv;have:=(dL C).2;rw[show J.ja.getD x.1 xC.zero=s by simp[List.getD,u]] at this;omega) (by rw[a];omega)
   rw[a] at a3;rw[Z g] at a1 a3;rw[Z g,a1];have h1:=h.same a2;have k:D.qy=J.qy:=by rw[a2]
   have Q:D.from=J.from:=by rw[a2]
   have T:=fun x v=>Ki a2 x v;cases ah with
   |none=>
    simp only;have af:D.jg.getD d 0=xE r (d:Nat):=by rw[h1.stat.jg];simp[List.getD,show d<5 by omega]
    rw[af];obtain⟨b1,b2,b3,b4,b5⟩:=im r (jd:=((d:Nat):Int)) (by omega);have G:∀y,qP r Ts Ns y->(∀p:Nat,(p:Int)<=xE r (d:Nat)->y.getD p 0=J.qy.getD p 0)->E (zG r.head y):=by
     intro y m ha;obtain⟨m1,m2⟩:=h.mix F I hd m ha;have L:∀p,p<d->(lW d J.qy y).getD p 0=J.qy.getD p 0:=fun p o=>by rw[wP d _ _ (by omega),zb o]
     rw[←m2];rcases X _ m1 with q|⟨_,q⟩|⟨i,j,_,N⟩
     ·exact q
     ·obtain⟨x,B,S⟩:=a3 _ q;have:=h.sol F I g m1 L x B;rw[S] at this;cases this
     ·rw[L i j] at N;omega
    by_cases aj:xE r (d:Nat)<0
    ·have ac:xE r (d:Nat)=-1:=by omega
     rw[ac];cases n with
     |zero=>omega
     |succ n=>
      refine⟨D,false,?_,?_,h1.stat⟩
      ·unfold kl;rw[za (by omega)];have:¬((-1:Int)≥(D.vars:Int)):=by omega
       simp[this]
      ·intro y m;exact G y m fun p o=>by omega
    ·obtain⟨b,C⟩:∃b:Nat,xE r (d:Nat)=(b:Int):=⟨(xE r (d:Nat)).toNat,by omega⟩;rw[C] at G b1 ⊢;have aa:b<d:=by omega
     have hM:=Be (W:=W) (vars:=r.vars) (f:=f) (vals:=J.qy) hd aa;obtain⟨M,H,s1,t⟩:=ih D b (J.qy.getD b 0+1) (h1.back (by omega)) (by omega) (fun _=>by rw[Q,h.from b aa]) (by
      rw[k];intro y m;rcases X y m with q|⟨j,u⟩|⟨i,j,u,N⟩
      ·exact zf q
      ·exact zf (G y m fun p o=>j p (by omega))
      ·by_cases ao:i<=b
       ·refine ze ?_;by_cases U:i=b
        ·subst U;exact zf ⟨u,by omega⟩
        ·exact ze ⟨i,by omega,u,N⟩
       ·exact zf (G y m fun p o=>u p (by omega))) (by rw[k];omega)
     refine⟨M,H,s1,?_⟩;rw[k] at t;cases H with
     |true=>exact⟨t.1,t.2.1,by have:=t.2.2;omega⟩
     |false=>exact t
   |some v=>
    simp only;obtain⟨c1,c2,c3⟩:=a3;have Y:v<W:=by
     obtain⟨x,B⟩:=List.exists_mem_of_ne_nil _ (a ▸ V);obtain⟨l,s,_,u,_,_,_,_,_,q8,_⟩:=h.hold F I B;have hv:=c2 x B;unfold jy at hv;obtain⟨b,C⟩:=mi.1 hv;have:=(dL C).2;rw[show J.ja.getD x.1 xC.zero=s by simp[List.getD,u]] at this;omega
    obtain⟨K,t2,t3,t4,t5,t6⟩:=h1.take F I g (v:=v) (fun x B=>by rw[T];exact c2 x B) Y;rw[k] at K;have ab:d<J.qy.length:=by rw[h.stat.vlen];omega
    obtain⟨m1,m2⟩:=GK (W:=W) (vars:=r.vars) (f:=f) (vals:=J.qy) g ab c1 Y;have z:∀y,qP r Ts Ns y->(∀p,p<d->y.getD p 0=J.qy.getD p 0)->f<=y.getD d 0->v<=y.getD d 0:=by
     intro y m ha hq;false_or_by_contra
     rename_i aq;obtain⟨x,B,S⟩:=c3 (y.getD d 0) hq (by omega);have:=h.sol F I g m ha x B;rw[S] at this;cases this
    have c:∀p,p<d->(J.qy.set d v).getD p 0=J.qy.getD p 0:=fun p o=>by rw[ur,za (by omega)]
    have w:(J.qy.set d v).getD d 0=v:=by rw[ur,zb ⟨rfl,ab⟩]
    by_cases C:uB (uE D d v) (d+1)=true
    ·rw[zb C];obtain⟨x,B,hk,hm⟩:=(sA t5.stat (d+1)).1 C;rw[K] at hm;obtain⟨M,H,s1,t⟩:=ih (uE D d v) d (v+1) t5 hd (fun _=>t3) (by
      rw[K];intro y m;rcases X y m with q|⟨j,u⟩|⟨i,j,u,N⟩
      ·exact zf q
      ·have ae:=z y m j u;by_cases O:y.getD d 0=v
       ·have:=m.2 x B;rw[nu x.1 (y:=J.qy.set d v) fun p o=>?_] at this
        ·rw[this] at hm;cases hm
        ·have an:=tA x.1 o;by_cases R:p=d
         ·rw[R,w,O]
         ·rw[c p (by omega),j p (by omega)]
       ·exact ze (zf ⟨fun p o=>by rw[c p o];exact j p o,by omega⟩)
      ·exact ze (ze ⟨i,j,fun p o=>by rw[c p (by omega)];exact u p o,by rw[c i j];exact N⟩)) (by rw[K];omega)
     refine⟨M,H,s1,?_⟩;rw[K] at t;cases H with
     |true=>exact⟨t.1,t.2.1,by have:=t.2.2;omega⟩
     |false=>exact t
    ·rw[za C];have C:uB (uE D d v) (d+1)=false:=by simpa using C
     have e:((d:Nat):Int)+1=((d+1:Nat):Int):=by omega
     rw[e];obtain⟨M,H,s1,t⟩:=ih (uE D d v) (d+1) 0 (t6 C) (by omega) (fun _=>t4 (by omega)) (by
      rw[K];intro y m;rcases X y m with q|⟨j,u⟩|⟨i,j,u,N⟩
      ·exact zf q
      ·have ae:=z y m j u;by_cases O:y.getD d 0=v
       ·refine ze (zf ⟨fun p o=>?_,zv _⟩);by_cases R:p=d
        ·rw[R,w,O]
        ·rw[c p (by omega)];exact j p (by omega)
       ·exact ze (ze ⟨d,by omega,fun p o=>by rw[c p o];exact j p o,by rw[w];omega⟩)
      ·exact ze (ze ⟨i,by omega,fun p o=>by rw[c p (by omega)];exact u p o,by rw[c i j];exact N⟩)) (by rw[K];omega)
     refine⟨M,H,s1,?_⟩;rw[K] at t;cases H with
     |true=>exact⟨t.1,t.2.1,by have:=t.2.2;omega⟩
     |false=>exact t
  ·have ag:d=r.vars:=by omega
   subst ag;rw[za (by rw[P];omega)];refine⟨J,true,by simp[P],h,?_,?_⟩
   ·intro y m;rcases X y m with q|⟨j,_⟩|q
    ·exact zf q
    ·exact ze (zf ⟨j,zv _⟩)
    ·exact ze (ze q)
   ·unfold vi;rw[za g,za g];exact zh _
end
def nk(r:zr)(a Ns:List zi)(W:Nat)(E:zk->Prop)(J:z9)(M:Nat):Prop:=
 J.ql=-1/\qM r a Ns J/\(∀y,qP r a Ns y->E (zG r.head y))∨(∀(i:Nat) (T:zi),a[i]?=some T->T.count≠0)/\∃(d f:Nat),J.ql=(d:Nat)/\d<=r.vars/\Qi r a Ns W J d/\(d<r.vars->J.from.getD d 0=f)/\QR r a Ns E d J.qy f/\vi W r.vars d J.qy f<=M
theorem sE{d:Nat}(c:d≠0)(e:d<=3):yY d=d:=by unfold yY;by_cases b:d<1<;>by_cases a:d>3<;>simp[b,a]<;>omega
theorem sw.count{T:zi}{l:zt}{y:List Nat}(h:sw T l y)(e:vf T)(c:T.ql=yY (yR l))(g:l.qg.length<=3):T.count≠0:=by
 by_cases a:yR l=0
 ·exact h.1 a
 ·have f:=h.2 a;have b:=eb l 5;rw[←gZ] at b;have d:=(qT T _).2 ⟨by rw[mG,←gZ,c,sE a (by omega)],f⟩;have:=mM d;rw[e.cnt] at this;omega
def lE(r:zr)(qc qp:List zi):z9:={head:=r.head,vars:=r.vars,ja:=qc.map (fun T=>⟨T,[0,0,0]⟩),bars:=(r.qp.zip qp).map (fun x=>⟨x.1,uC x.1,x.2⟩),je:=(List.range 5).map (xy r),jg:=(List.range 5).map (fun p=>xE r (p:Nat)),last:=xE r r.vars,qy:=[0,0,0,0,0],«from»:=[0,0,0,0,0],ql:=if qc.any (fun T=>T.count == 0) then -1 else 0,jh:=0}
theorem Nj(r:zr)(a Ns:List zi):xF r a Ns=if uB (lE r a Ns) 0 then{lE r a Ns with ql:=-1} else lE r a Ns:=rfl
theorem BX(r:zr)(a Ns:List zi):∃c,xF r a Ns={lE r a Ns with ql:=c}/\c=if uB (xF r a Ns) 0=true then -1 else if a.any (fun T=>T.count == 0)=true then -1 else 0:=by
 have d:∀c:Int,uB {lE r a Ns with ql:=c} 0=uB (lE r a Ns) 0:=fun _=>rfl;rw[Nj];by_cases b:uB (lE r a Ns) 0=true
 ·rw[zb b];exact⟨-1,rfl,by rw[d,zb b]⟩
 ·rw[za b];exact⟨_,rfl,by rw[za b]⟩
theorem M8(r:zr)(a Ns:List zi):qM r a Ns (xF r a Ns)/\(xF r a Ns).qy=[0,0,0,0,0]/\(xF r a Ns).from=[0,0,0,0,0]/\(xF r a Ns).ja=a.map (fun T=>⟨T,[0,0,0]⟩):=by
 obtain⟨b,h,_⟩:=BX r a Ns;rw[h];exact⟨⟨rfl,rfl,rfl,rfl,rfl,rfl,by simp[lE,Function.comp_def],rfl,rfl⟩,rfl,rfl,rfl⟩
theorem LT{r:zr}{b Ns:List zi}{W:Nat}(H:fw r)(C:gM r b W)(E:zk->Prop):nk r b Ns W E (xF r b Ns) (vi W r.vars 0 [] 0):=by
 obtain⟨c,K,A,z⟩:=M8 r b Ns;have e:(∃(i:Nat) (T:zi),b[i]?=some T/\T.count=0)->∀y,¬qP r b Ns y:=by
  rintro⟨i,T,g,j⟩ y f;have n:i<r.qc.length:=by rw[←C.len];exact(jG.1 g).1
  have t:=yq n;obtain⟨I,G,_⟩:=C.ok i _ T t g;exact(f.1 i _ T t g).count I G (H.qg _ (gz t)) j
 have d:uB (xF r b Ns) 0=true->∀y,¬qP r b Ns y:=by
  intro h y f;obtain⟨x,w,u,v⟩:=(sA c 0).1 h;have:=f.2 x w;rw[nu x.1 (y:=(xF r b Ns).qy) fun p o=>by have:=tA x.1 o;omega] at this;rw[this] at v;cases v
 have a:(xF r b Ns).ql=if uB (xF r b Ns) 0=true then -1 else if b.any (fun T=>T.count == 0)=true then -1 else 0:=by
  obtain⟨J,g,j⟩:=BX r b Ns;rw[←j,g]
 by_cases h:uB (xF r b Ns) 0=true
 ·left;rw[zb h] at a;exact⟨a,c,fun y f=>zC f (d h y)⟩
 ·rw[za h] at a;by_cases q:b.any (fun T=>T.count == 0)=true
  ·left;rw[zb q] at a;refine⟨a,c,fun y f=>zC f (e ?_ y)⟩;obtain⟨T,g,j⟩:=kY.1 q;obtain⟨i,n,rfl⟩:=vl g;exact⟨i,_,yq n,by simpa using j⟩
  ·right;rw[za q] at a;refine⟨fun i T D F=>q (kY.2 ⟨T,gz D,by simp[F]⟩),0,0,a,zv _,⟨c,fun i l s t B=>?_,fun x w u=>?_,fun i n=>by omega,fun i n=>by omega⟩,fun _=>by rw[A];rfl,fun y _=>ze (zf ⟨fun p o=>by omega,zv _⟩),?_⟩
   ·rw[z] at B;simp only[hX,vr] at B;obtain⟨T,D,rfl⟩:=B;have o:ym l (xF r b Ns).qy 0=[]:=rfl;refine⟨rfl,fun k u L=>?_,by rw[o];rfl⟩;have:k=0:=by simp[y9] at u;exact u
    subst this;rw[o];rfl
   ·cases v:xB x.2 (zG x.1 (xF r b Ns).qy) with
    |none=>rfl
    |some m=>exact zC ((sA c 0).2 ⟨x,w,by omega,by rw[v];rfl⟩) h
   ·unfold vi;exact zh _
theorem Gu{r:zr}{v Ns:List zi}{W:Nat}(C:fw r)(R:gM r v W)(E:zk->Prop)(A:Nat)(hA:W*(r.qc.length+1)+r.qc.length<=A)(n:Nat)(J:z9)(M:Nat)(h:nk r v Ns W E J M)(hn:M+A+1<n):
  ∃c b,mq n J=some (c,b)/\(b=false->∀y,qP r v Ns y->E (zG r.head y))/\(b=true->qP r v Ns c.qy/\c.head=r.head/\∃V,V<M/\nk r v Ns W (fun x=>E x∨x=zG r.head c.qy) c V):=by
 unfold mq;rcases h with⟨F,U,K⟩|⟨t,d,f,F,U,K,h4,Z,h6⟩
 ·rw[F];obtain⟨k,rfl⟩:∃k,n=k+1:=⟨n-1,by omega⟩;refine⟨{J with ql:=-1},false,?_,fun _=>K,fun q=>by cases q⟩;unfold kl;have:¬((-1:Int)≥(J.vars:Int)):=by omega
  simp[this]
 ·rw[F];obtain⟨c,b,s1,S⟩:=G9 C R E A hA n J d f K U h4 Z (by omega);rw[s1];simp only;cases b with
  |false=>exact⟨_,false,rfl,fun _=>S.1,fun q=>by cases q⟩
  |true=>
   obtain⟨e,t2,t3⟩:=S;have H:=C.vars;have z:qP r v Ns c.qy:=by
    refine⟨fun i l T G X=>⟨fun _=>t i T X,fun _=>?_⟩,fun x L=>?_⟩
    ·obtain⟨s,Q⟩:=e.stat.some R G;have m:=e.stat.side Q;rw[X] at m;simp only[zs] at m;rw[M5 H (C.qc l (gz G)),m];exact(e.qi i l s G Q).2.2
    ·exact e.nob x L (Bz x.1 (C.qp x.1 (List.of_mem_zip L).1))
   refine⟨_,true,rfl,fun q=>(by cases q),fun _=>⟨z,e.stat.head,?_⟩⟩;obtain⟨b1,b2,b3,_,_⟩:=im r (jd:=((r.vars:Nat):Int)) (by omega);have j:=e.stat.last;have u:∀y,(∀p:Nat,(p:Int)<=xE r (r.vars:Nat)->y.getD p 0=c.qy.getD p 0)->zG r.head y=zG r.head c.qy:=fun y ha=>nu r.head fun p D=>ha p (by
    have F:=C.head p D;have:=eZ r.head (jd:=((r.vars:Nat):Int)) D (by omega);omega)
   have g:qM r v Ns {c with ql:=c.last}:=⟨e.stat.head,e.stat.vars,e.stat.je,e.stat.jg,e.stat.last,e.stat.bars,e.stat.ja,e.stat.vlen,e.stat.flen⟩;have P:=Ak W r.vars d J.qy f;by_cases N:xE r (r.vars:Nat)<0
   ·refine⟨M-1,by omega,zf ⟨by show c.last=-1;rw[j];omega,g,fun y O=>?_⟩⟩;exact ze (u y fun p D=>by omega)
   ·obtain⟨o,hb⟩:∃b:Nat,xE r (r.vars:Nat)=(b:Int):=⟨(xE r (r.vars:Nat)).toNat,by omega⟩;have B:o<r.vars:=by omega
    have hM:=Be (W:=W) (vars:=r.vars) (f:=0) (vals:=c.qy) (zh _) B;have a:=e.back (b:=o) (by omega);refine⟨vi W r.vars o c.qy (c.qy.getD o 0+1),by omega,ze ⟨t,o,c.qy.getD o 0+1,by show c.last=_;rw[j,hb],by omega,⟨g,a.qi,a.nob,a.from,a.small⟩,fun _=>e.from o B,fun y O=>?_,zh _⟩⟩;rcases t2 y O with q|⟨Y,_⟩|⟨i,Y,I,q3⟩
    ·exact zf (zf q)
    ·exact zf (ze (u y fun p D=>Y p (by omega)))
    ·by_cases aa:i<=o
     ·refine ze ?_;by_cases w:i=o
      ·subst w;exact zf ⟨I,by omega⟩
      ·exact ze ⟨i,by omega,I,q3⟩
     ·exact zf (ze (u y fun p D=>I p (by omega)))
section
variable {l:zt}{a W:Nat}{row:zk}
structure vM (l:zt) (a W:Nat):Prop where
 len:l.qg.length=a
 le3:a<=3
 lev:∀t∈l.qg,t.var=true->t.num<5/\yX l t.num=some t.level
 con:∀t∈l.qg,t.var=false->t.num<W
def Pp(a:Nat)(row:zk):Prop:=row.length=3/\∀i,a<=i->row.getD i 0=0
theorem pS(l:zt)(y:List Nat){i:Nat}(b:i<3):(zG l y).getD i 0=Pa l y i:=by
 match i,b with
 |0,_=>rfl
 |1,_=>rfl
 |2,_=>rfl
theorem tX(h:vM l a W)(y:List Nat):Pp a (zG l y):=by
 refine⟨rfl,fun i c=>?_⟩;by_cases b:i<3
 ·rw[pS l y b];unfold Pa;rw[za (by rw[h.len];omega)]
 ·simp[List.getD,zG];rw[kR (by simp;omega)];rfl
theorem E8{x y:zk}(b:Pp a x)(d:Pp a y)(h:∀i,i<a->i<3->x.getD i 0=y.getD i 0):x=y:=by
 refine kJ (by rw[b.1,d.1]) fun i c g=>?_;have e:x.getD i 0=y.getD i 0:=by
  by_cases f:i<a
  ·exact h i f (by rw[b.1] at c;exact c)
  ·rw[b.2 i (by omega),d.2 i (by omega)]
 simpa [List.getD,c,g] using e
theorem Kf{p d:Nat}(c:zL l p=true)(e:p<d):(y9 l d)[(y9 l p).length]?=some p:=by
 obtain⟨t,b⟩:=eV l (show p+1<=d by omega);rw[←b,lf,zb c];simp
theorem tN{p j:Nat}(h:yX l p=some j)(b:p<5):(y9 l 5)[j]?=some p:=by
 rw[ef] at h;split at h
 ·rename_i c;simp only[zs] at h;subst h;exact Kf c b
 ·cases h
theorem iU{p j:Nat}(h:yX l p=some j)(b:p<5):j<yR l:=by
 have:=tN h b;rw[gZ];exact(jG.1 this).1
theorem wM(h:vM l a W):yR l<=3:=by
 have:=eb l 5;rw[gZ];have:=h.len;have:=h.le3;omega
theorem vM.leveled{l:zt}{a W:Nat}(h:vM l a W){t:zZ}(d:t∈l.qg):leveled t=t.var:=by
 unfold Go.Proofs.YteampbddflhngaaGreat.leveled;cases b:t.var with
 |false=>rfl
 |true=>
  obtain⟨e,c⟩:=h.lev t d b;have:=iU c e;have:=wM h;simp;omega
theorem n9(l:zt)(row f:zk)(i:Nat):(qC l row f i).length=f.length:=by unfold qC;split<;>simp
theorem r9(l:zt)(row:zk):(ul l row).length=3:=by unfold ul;rw[n9,n9,n9];rfl
theorem iY{g:Nat->Nat}(t:∀i (c:i<l.qg.length),leveled l.qg[i]=true->row.getD i 0=g l.qg[i].level){f:zk}{m:Nat}(u:f.length=3)
  (w:∀j,j<3->(f.getD j 0=g j∨f.getD j 0=0)/\((∃i,∃c:i<l.qg.length,i<m/\leveled l.qg[i]=true/\l.qg[i].level=j)->f.getD j 0=g j)/\((¬∃i,∃c:i<l.qg.length,leveled l.qg[i]=true/\l.qg[i].level=j)->f.getD j 0=0)):
  ∀j,j<3->((qC l row f m).getD j 0=g j∨(qC l row f m).getD j 0=0)/\((∃i,∃c:i<l.qg.length,i<m+1/\leveled l.qg[i]=true/\l.qg[i].level=j)->(qC l row f m).getD j 0=g j)/\((¬∃i,∃c:i<l.qg.length,leveled l.qg[i]=true/\l.qg[i].level=j)->(qC l row f m).getD j 0=0):=by
 intro j p;obtain⟨r,o,s⟩:=w j p;unfold qC;by_cases d:m<l.qg.length/\leveled (l.qg.getD m ⟨false,0,0⟩)=true
 ·rw[zb d];have e:l.qg.getD m ⟨false,0,0⟩=l.qg[m]'d.1:=by simp[List.getD,d.1]
  rw[e] at d ⊢;rw[ur];by_cases b:l.qg[m].level=j/\l.qg[m].level<f.length
  ·rw[zb b];have:=t m d.1 d.2;rw[b.1] at this;exact⟨zf this,fun _=>this,fun q=>zC ⟨m,d.1,d.2,b.1⟩ q⟩
  ·rw[za b];refine⟨r,?_,s⟩;rintro⟨i,c,v,n,k⟩;by_cases h:i=m
   ·subst h;exact zC ⟨k,by rw[k,u];exact p⟩ b
   ·exact o ⟨i,c,by omega,n,k⟩
 ·rw[za d];refine⟨r,?_,s⟩;rintro⟨i,c,v,n,k⟩;by_cases h:i=m
  ·subst h;exact zC ⟨c,by simpa [List.getD,c] using n⟩ d
  ·exact o ⟨i,c,by omega,n,k⟩
theorem G2(h:vM l a W){g:Nat->Nat}(d:∀i (b:i<l.qg.length),leveled l.qg[i]=true->row.getD i 0=g l.qg[i].level)(j:Nat)(c:j<3):((∃i,∃b:i<l.qg.length,leveled l.qg[i]=true/\l.qg[i].level=j)->(ul l row).getD j 0=g j)/\((¬∃i,∃b:i<l.qg.length,leveled l.qg[i]=true/\l.qg[i].level=j)->(ul l row).getD j 0=0):=by
 have m:∀j,j<3->((([0,0,0]:zk).getD j 0=g j∨([0,0,0]:zk).getD j 0=0)/\((∃i,∃b:i<l.qg.length,i<0/\leveled l.qg[i]=true/\l.qg[i].level=j)->([0,0,0]:zk).getD j 0=g j)/\((¬∃i,∃b:i<l.qg.length,leveled l.qg[i]=true/\l.qg[i].level=j)->([0,0,0]:zk).getD j 0=0)):=by
  intro j c;have e:([0,0,0]:zk).getD j 0=0:=by
   match j,c with
   |0,_=>rfl
   |1,_=>rfl
   |2,_=>rfl
  exact⟨ze e,fun⟨i,_,q,_⟩=>by omega,fun _=>e⟩
 have n:=iY d rfl m;have k:=iY d (by rw[n9];rfl) n;have s:=iY d (by rw[n9,n9];rfl) k;obtain⟨_,p,r⟩:=s j c;refine⟨fun⟨i,b,f,o⟩=>p ⟨i,b,?_,f,o⟩,r⟩;have:=h.len;have:=h.le3;omega
theorem AN(h:vM l a W){f:zk}:xx l row=some f↔f=ul l row/\∀i (b:i<l.qg.length),jn l.qg[i] (row.getD i 0) (ul l row)=true:=by
 have c:(xu l row (ul l row) 0&&xu l row (ul l row) 1&&xu l row (ul l row) 2)=true↔∀i (b:i<l.qg.length),jn l.qg[i] (row.getD i 0) (ul l row)=true:=by
  have e:∀i,xu l row (ul l row) i=true↔∀b:i<l.qg.length,jn l.qg[i] (row.getD i 0) (ul l row)=true:=by
   intro i;unfold xu;simp only[dN,decide_eq_true_eq];constructor
   ·rintro(q|q) b
    ·omega
    ·simpa [List.getD,b] using q
   ·intro q;by_cases b:i<l.qg.length
    ·exact ze (by simpa [List.getD,b] using q b)
    ·exact zf (by omega)
  simp only[uZ,e];constructor
  ·rintro⟨⟨j,m⟩,k⟩ i b;have:=h.len;have:=h.le3;have g:i=0∨i=1∨i=2:=by omega
   rcases g with rfl|rfl|rfl
   ·exact j b
   ·exact m b
   ·exact k b
  ·intro q;exact⟨⟨fun b=>q 0 b,fun b=>q 1 b⟩,fun b=>q 2 b⟩
 unfold xx;by_cases d:(xu l row (ul l row) 0&&xu l row (ul l row) 1&&xu l row (ul l row) 2)=true
 ·rw[zb d];simp only[zs];exact⟨fun q=>⟨q.symm,c.1 d⟩,fun q=>q.1.symm⟩
 ·rw[za d];constructor
  ·intro q;cases q
  ·intro q;exact zC (c.2 q.2) d
theorem FT{l:List Nat}(h:l.Nodup){i j:Nat}(d:i<l.length)(b:j<l.length)(e:l[i]=l[j]):i=j:=by
 have c:=sd.1 h;rcases nQ i j with q|q|q
 ·exact zC e (c i j d b q)
 ·exact q
 ·exact zC e.symm (c j i b d q)
theorem MD(h:vM l a W)(y:List Nat):∃f,xx l (zG l y)=some f/\f.length=3/\f.take (yR l)=ym l y 5/\∀j,yR l<=j->f.getD j 0=0:=by
 have q:∀i (b:i<l.qg.length),(zG l y).getD i 0=Qj l.qg[i] y:=fun i b=>by
  have:=h.len;have:=h.le3;rw[pS l y (by omega)];unfold Pa;simp[List.getD,b]
 have x:∀i (b:i<l.qg.length),leveled l.qg[i]=true->(zG l y).getD i 0=(ym l y 5).getD l.qg[i].level 0:=fun i b c=>by
  have o:=zu b;rw[h.leveled o] at c;obtain⟨r,n⟩:=h.lev _ o c;rw[q i b];unfold Qj;rw[zb (by simp[c,r])];have:=tN n r;unfold ym;simp[List.getD,this]
 have s:=fun j k=>G2 h (row:=zG l y) (g:=fun j=>(ym l y 5).getD j 0) x j k;have p:∀i (b:i<l.qg.length),leveled l.qg[i]=true->l.qg[i].level<yR l:=fun i b c=>by
  have o:=zu b;rw[h.leveled o] at c;obtain⟨r,n⟩:=h.lev _ o c;exact iU n r
 have D:=wM h;have m:∀j,yR l<=j->(ul l (zG l y)).getD j 0=0:=fun j k=>by
  by_cases E:j<3
  ·exact(s j E).2 fun⟨i,b,H,J⟩=>by have:=p i b H;omega
  ·have:=r9 l (zG l y);simp[List.getD,List.getElem?_eq_none (show(ul l (zG l y)).length<=j by omega)]
 have d:∀j,j<yR l->(ul l (zG l y)).getD j 0=(ym l y 5).getD j 0:=fun j k=>by
  refine(s j (by omega)).1 ?_;rw[gZ] at k;have F:=zu k;obtain⟨I,G⟩:=(pk l 5 _).1 F;obtain⟨t,v,w,A⟩:=(fd l _).1 G;obtain⟨i,b,rfl⟩:=vl v;refine⟨i,b,by rw[h.leveled v];exact w,?_⟩;obtain⟨C,z⟩:=h.lev _ v w;have:=tN z C;rw[A] at this;obtain⟨B,e⟩:=jG.1 this;exact FT (List.nodup_range.filter _:(y9 l 5).Nodup) B k e
 refine⟨ul l (zG l y),(AN h).2 ⟨rfl,fun i b=>?_⟩,r9 _ _,?_,m⟩
 ·unfold jn;have o:=zu b;cases c:leveled l.qg[i] with
  |true=>
   rw[zb rfl,d _ (p i b c),x i b c];simp
  |false=>
   rw[za (by simp),q i b];rw[h.leveled o] at c;unfold Qj;rw[za (by simp[c])];simp
 ·refine kJ (by rw[qa,r9,mG,←gZ];omega) fun j r n=>?_;have k:j<yR l:=by rw[mG,←gZ] at n;exact n
  have:=d j k;have u:j<(ul l (zG l y)).length:=by rw[r9];omega
  simp only[List.getD,yq u,yq n,uo] at this;rw[List.getElem_take];exact this
theorem Bt(h:vM l a W){f:zk}(t:Pp a row)(s:xx l row=some f)(y:List Nat)(p:f.take (yR l)=ym l y 5):row=zG l y:=by
 obtain⟨rfl,m⟩:=(AN h).1 s;refine E8 t (tX h y) fun i q r=>?_;have c:i<l.qg.length:=by rw[h.len];exact q
 have b:=zu c;have d:=m i c;rw[pS l y r];unfold Pa;rw[zb c,show l.qg.getD i ⟨false,0,0⟩=l.qg[i] by simp[List.getD,c]];unfold jn at d;unfold Qj;cases g:leveled l.qg[i] with
 |true=>
  rw[g,zb rfl] at d;rw[h.leveled b] at g;obtain⟨n,o⟩:=h.lev _ b g;rw[zb (by simp[g,n])];have k:=iU o n;have j:=tN o n;have e:(ul l row).getD l.qg[i].level 0=((ul l row).take (yR l)).getD l.qg[i].level 0:=by
   simp[List.getD,k]
  rw[e,p] at d;unfold ym at d;simp only[List.getD,hX,j,jZ,uo,beq_iff_eq] at d;exact d.symm
 |false=>
  rw[g,za (by simp)] at d;rw[h.leveled b] at g;rw[za (by simp[g])];exact(by simpa using d:l.qg[i].num=row.getD i 0).symm
end
section
variable {W:Nat}{row:zk}{l:zt}{T:zi}
def P6(W:Nat)(row:zk):Prop:=∀v∈row,v<W
theorem FK(h:P6 W row)(b:0<W)(i:Nat):row.getD i 0<W:=by
 by_cases a:i<row.length
 ·rw[show row.getD i 0=row[i] by simp[List.getD,a]];exact h _ (zu a)
 ·rw[show row.getD i 0=0 by simp[List.getD,a]];exact b
theorem ep{f:zk}(c:0<W)(d:P6 W row)(a:P6 W f)(i:Nat):P6 W (qC l row f i):=by
 unfold qC;split
 ·intro v b;rcases nZ b with q|q
  ·exact a v q
  ·rw[q];exact FK d c i
 ·exact a
theorem KF{f:zk}(b:0<W)(c:P6 W row)(a:xx l row=some f):f.length=3/\P6 W f:=by
 unfold xx at a;split at a
 ·simp only[zs] at a;rw[←a];refine⟨r9 l row,?_⟩;unfold ul;have e:P6 W [0,0,0]:=by intro v d;simp at d;omega
  exact ep b c (ep b c (ep b c e 0) 1) 2
 ·cases a
theorem E3(T:zi)(row:zk):fx T row=true↔P6 T.qf row:=by simp[fx,P6]
theorem i8:∀(rs:List zk) (T:zi),vf T->(∀r∈rs,r.length=3/\P6 T.qf r)->T.count+rs.length<=9000000->∃a,xW rs T=some a/\vf a/\a.qf=T.qf/\a.ql=T.ql/\a.count<=T.count+rs.length/\∀k,k.length=T.ql->((uf a k).isSome=true↔(uf T k).isSome=true∨∃r∈rs,r.take T.ql=k)
 |[],T,h,_,_=>⟨T,rfl,h,rfl,rfl,by simp,fun k _=>by simp⟩
 |r::rs,T,h,i,t=>by
  simp only[yZ] at t;obtain⟨z,v⟩:=i r (by simp);obtain⟨B,f,d,D,A,s,w⟩:=h.add r 0 z ((E3 T r).2 v);have j:(addP T r 0).1.count<=T.count+1:=by
   cases m:(addP T r 0).2 with
   |false=>rw[A m];omega
   |true=>rw[s m];exact zh _
  obtain⟨a,y,p,u,o,E,C⟩:=i8 rs (addP T r 0).1 B (fun x n=>by rw[f];exact i x (by simp[n])) (by omega);unfold xW;rw[zb (h.okT (by omega))];refine⟨a,y,p,by rw[u,f],by rw[o,d],by simp only[yZ];omega,fun k g=>?_⟩;rw[C k (by rw[d];exact g),w k g,d];by_cases e:k=r.take T.ql
  ·subst e;simp
  ·rw[za e];constructor
   ·rintro(q|⟨x,b,c⟩)
    ·exact zf q
    ·exact ze ⟨x,by simp[b],c⟩
   ·rintro(q|⟨x,b,c⟩)
    ·exact zf q
    ·rcases zw.1 b with rfl|b
     ·exact zC c.symm e
     ·exact ze ⟨x,b,c⟩
structure uF (T:zi) (l:zt) (W:Nat) (P:zk->Prop):Prop where
 ok:vf T
 qf:T.qf=W
 ql:T.ql=yY (yR l)
 sem:∀k,k.length=T.ql->((uf T k).isSome=true↔∃row f,P row/\xx l row=some f/\f.take T.ql=k)
theorem uF.congr{P Q:zk->Prop}(h:uF T l W P)(e:∀x,P x↔Q x):uF T l W Q:=
 ⟨h.ok,h.qf,h.ql,fun k a=>by rw[h.sem k a];exact⟨fun⟨r,f,q⟩=>⟨r,f,(e r).1 q.1,q.2⟩,fun⟨r,f,q⟩=>⟨r,f,(e r).2 q.1,q.2⟩⟩⟩
theorem uF.new(l:zt)(w W:Nat)(b:W=yn w):uF (yS w (yR l)) l W (fun _=>False):=by
 refine⟨vf.new _ _,by rw[Dh,b],nJ _ _,fun k a=>?_⟩;constructor
 ·intro q;rw[tS _ _ k (by rintro rfl;have:=(fm (yR l)).1;rw[nJ] at a;simp at a;omega)] at q;cases q
 ·rintro⟨_,_,q,_⟩;exact q.elim
theorem uF.adds{P:zk->Prop}(h:uF T l W P)(s:0<W)(a:List zk)(q:∀r∈a,P6 W r)(w:T.count+a.length<=9000000):∃d,xW (a.filterMap (xx l)) T=some d/\uF d l W (fun x=>P x∨x∈a)/\d.count<=T.count+a.length:=by
 have n:(a.filterMap (xx l)).length<=a.length:=ra _ _;obtain⟨d,v,o,t,i,y,p⟩:=i8 (a.filterMap (xx l)) T h.ok (fun r u=>by
  obtain⟨x,g,m⟩:=lh.1 u;rw[h.qf];exact KF s (q x g) m) (by omega)
 refine⟨d,v,⟨o,by rw[t,h.qf],by rw[i,h.ql],fun k j=>?_⟩,by omega⟩;rw[i] at j;rw[p k j,h.sem k j,i];constructor
 ·rintro(⟨r,f,b,c,e⟩|⟨f,b,c⟩)
  ·exact⟨r,f,zf b,c,e⟩
  ·obtain⟨x,g,m⟩:=lh.1 b;exact⟨x,f,ze g,m,c⟩
 ·rintro⟨r,f,b|b,c,e⟩
  ·exact zf ⟨r,f,b,c,e⟩
  ·exact ze ⟨f,lh.2 ⟨r,b,c⟩,e⟩
theorem B4{k:zk}{d:Nat}(h:k.length=d)(a:d<=3):(Qh k d).length=3:=by simp[Qh,h];omega
theorem r7{k:zk}{d:Nat}(h:k.length=d):(Qh k d).take d=k:=by simp[Qh,←h]
theorem BY{k:zk}{d:Nat}(b:0<W)(h:P6 W k):P6 W (Qh k d):=by
 intro v a;unfold Qh at a;rcases zW.1 a with q|q
 ·exact h v q
 ·have:=g4 q;simp at this;omega
theorem uF.join{U:zi}{P Q:zk->Prop}(h:uF T l W P)(k:uF U l W Q)(s:0<W)(E:T.count+U.count<=9000000):∃c,xW ((PD U).map fun x=>Qh x U.ql) T=some c/\uF c l W (fun x=>P x∨Q x)/\c.count<=T.count+U.count:=by
 have e:U.ql=T.ql:=by rw[h.ql,k.ql]
 have z:T.ql<=3:=by rw[h.ql];exact(fm _).2
 obtain⟨c,C,n,t,i,B,o⟩:=i8 ((PD U).map fun x=>Qh x U.ql) T h.ok (fun r A=>by
  obtain⟨x,g,rfl⟩:=zB.1 A;obtain⟨b,a⟩:=(qT U x).1 g;refine⟨B4 b (by omega),?_⟩;rw[h.qf];refine BY s ?_;intro v w;have:=ty x 0 a v w;rw[k.qf] at this;exact this) (by simp[k.ok.cnt];omega)
 refine⟨c,C,⟨n,by rw[t,h.qf],by rw[i,h.ql],fun y j=>?_⟩,by simpa [k.ok.cnt] using B⟩;rw[i] at j;rw[o y j,h.sem y j,i];constructor
 ·rintro(⟨r,f,b,a,d⟩|⟨r,b,a⟩)
  ·exact⟨r,f,zf b,a,d⟩
  ·obtain⟨x,g,rfl⟩:=zB.1 b;obtain⟨m,q⟩:=(qT U x).1 g;rw[←e,r7 m] at a;subst a;obtain⟨r,f,D,u,p⟩:=(k.sem x m).1 q;exact⟨r,f,ze D,u,by rw[←e];exact p⟩
 ·rintro⟨r,f,b|b,a,d⟩
  ·exact zf ⟨r,f,b,a,d⟩
  ·refine ze ⟨Qh y U.ql,zB.2 ⟨y,(qT U y).2 ⟨by omega,(k.sem y (by omega)).2 ⟨r,f,b,a,by rw[e];exact d⟩⟩,rfl⟩,?_⟩;rw[←e,r7 (by omega)]
theorem uF.sat{a z:Nat}{P:zk->Prop}(h:uF T l W P)(j:vM l a z)(v:∀x,P x->Pp a x)(y:List Nat):sw T l y↔P (zG l y):=by
 obtain⟨f,w,u,F,G⟩:=MD j y;have p:=wM j;by_cases b:yR l=0
 ·have e:T.ql=1:=by rw[h.ql,b];rfl
  have E:ym l y 5=[]:=mw.1 (by rw[mG,←gZ];exact b);constructor
  ·intro n;have m:=n.1 b;rw[←h.ok.cnt] at m;obtain⟨k,A⟩:=List.exists_mem_of_length_pos (Nat.pos_of_ne_zero m);obtain⟨D,C⟩:=(qT T k).1 A;obtain⟨r,g,i,s,o⟩:=(h.sem k D).1 C;have:=Bt j (v r i) s y (by rw[b,E];rfl);rw[←this];exact i
  ·intro c;refine⟨fun _ m=>?_,fun q=>zC b q⟩;have:(uf T (f.take T.ql)).isSome=true:=(h.sem _ (by rw[qa,u,e];rfl)).2 ⟨_,f,c,w,rfl⟩;have B:=(qT T _).2 ⟨by rw[qa,u,e];rfl,this⟩;have:=mM B;rw[h.ok.cnt] at this;omega
 ·have t:T.ql=yR l:=by rw[h.ql,sE b p]
  have d:(ym l y 5).length=T.ql:=by rw[mG,←gZ,t]
  constructor
  ·intro n;obtain⟨r,g,i,s,o⟩:=(h.sem _ d).1 (n.2 b);rw[t] at o;have:=Bt j (v r i) s y o;rw[←this];exact i
  ·intro c;exact⟨fun q=>zC q b,fun _=>(h.sem _ d).2 ⟨_,f,c,w,by rw[t];exact F⟩⟩
structure mT (V:yL) (l:zt) (W:Nat) (P0 P1:zk->Prop) (Pf:zk->Prop) (c:Nat):Prop where
 lit:V.lit=l
 before:uF V.before l W P0
 qo:uF V.qo l W Pf
 all:uF V.all l W P1
 few:V.before.count+V.qo.count<=c/\V.all.count<=c
theorem C5{V:yL}{w:Nat}{o j k:zk->Prop}{c:Nat}(h:mT V l W o j k c)(n:W=yn w)(d:List zk)(m:∀r∈d,P6 W r)(A:c+d.length<=1048576)(e:Nat)(u:3*(W+1)<=e):∃i,fL e w V d=some i/\mT i l W (fun x=>o x∨k x) (fun x=>j x∨x∈d) (fun x=>x∈d) (c+d.length):=by
 have g:0<W:=by rw[n];unfold yn;split<;>omega
 have y:=h.qo.ok.rowsG e (by rw[h.qo.qf];exact u) (by have:=h.few.1;omega);obtain⟨b,v,s,C⟩:=h.before.join h.qo g (by have:=h.few.1;omega);obtain⟨f,t,p,B⟩:=(uF.new l w W n).adds g d m (by simp[yS,yx];omega);obtain⟨a,z,q,D⟩:=h.all.adds g d m (by have:=h.few.2;omega);refine⟨{V with before:=b,qo:=f,all:=a},?_,h.lit,s,p.congr (fun x=>by simp),q,?_⟩
 ·unfold fL;rw[y,h.lit];simp only[v,t,z]
 ·have F:=h.few.1;have E:=h.few.2;have G:(yS w (yR l)).count=0:=rfl;simp only;omega
end
section
open Classical
abbrev DB:=Nat->zk->Option Nat
noncomputable def zxy(ar:List Nat)(R:zx):DB:=fun p row=>if p<ar.length/\Pp (ar.getD p 0) row then xB (R.rows.getD p zi.zero) row else none
structure vQ (ar:List Nat) (W:Nat) (R:zx):Prop where
 len:R.rows.length=ar.length
 tries:∀p (hp:p<R.rows.length),vf R.rows[p]/\R.rows[p].qf=W/\R.rows[p].ql=yY (ar.getD p 0)/\∀k∈PD R.rows[p],Pp (ar.getD p 0) (Qh k R.rows[p].ql)
 cnt:R.count=(R.rows.map (·.count)).sum
theorem KM(l:List zi):∀(p:Nat) (T:zi) (b:p<l.length),((l.set p T).map (·.count)).sum+l[p].count=(l.map (·.count)).sum+T.count:=by
 induction l with
 |nil=>intro p T b;simp at b
 |cons a l c=>
  intro p T b;cases p with
  |zero=>simp;omega
  |succ p=>
   have:=c p T (by simpa using b);simp at this ⊢;omega
theorem eP(l:List zi):∀(p:Nat) (b:p<l.length),l[p].count<=(l.map (·.count)).sum:=by
 induction l with
 |nil=>intro p b;simp at b
 |cons a l c=>
  intro p b;cases p with
  |zero=>simp
  |succ p=>
   have:=c p (by simpa using b);simp at this ⊢;omega
theorem Ot{a:Nat}(g:a<=3){x y:zk}(d:Pp a x)(b:Pp a y)(e:x.take (yY a)=y.take (yY a)):x=y:=by
 refine E8 d b fun i c h=>?_;have f:i<yY a:=by rw[sE (by omega) g];exact c
 have:=congrArg (fun l=>l.getD i 0) e;simpa [List.getD,List.getElem?_take,f] using this
theorem DS{a:Nat}(n:a<=3){x:zk}(e:Pp a x):Qh (x.take (yY a)) (yY a)=x:=by
 have m:a<=yY a:=by
  by_cases k:a=0
  ·omega
  ·rw[sE k n];exact zh _
 show x.take (yY a)++([0,0,0]:zk).drop (yY a)=x;have b:=e.1;refine kJ (by simp[b];omega) fun i o l=>?_;have g:=fun i (h:yY a<=i)=>e.2 i (by omega);by_cases h:i<yY a
 ·rw[uT (by simp[b];omega)];simp
 ·rw[lK (by simp;omega)];have f:x[i]=0:=by have:=g i (by omega);simpa [List.getD,l] using this
  rw[f];simp only[List.getElem_drop];have:∀j (d:j<([0,0,0]:List Nat).length),([0,0,0]:List Nat)[j]=0:=by
   intro j d;have c:j=0∨j=1∨j=2:=by simp at d;omega
   rcases c with rfl|rfl|rfl<;>rfl
  exact this _ _
structure PT (ar:List Nat) (W k:Nat) (D0:DB) (c0:List Nat) (R:zx):Prop where
 inv:vQ ar W R
 qx:R.qx=k
 flen:R.qo.length=ar.length
 qo:∀p (hp:p<R.qo.length),R.qo[p].Nodup/\∀row∈R.qo[p],Pp (ar.getD p 0) row/\P6 W row/\D0 p row=none
 abs:∀p row,zxy ar R p row=match D0 p row with
  |some m=>some m
  |none=>if row∈R.qo.getD p [] then some k else none
 cnts:∀p (hp:p<R.rows.length),R.rows[p].count=c0.getD p 0+(R.qo.getD p []).length
theorem Ph{α:Type}{l:List α}{i:Nat}(d:α)(h:i<l.length):l.getD i d=l[i]:=by simp[List.getD,h]
theorem Co{α:Type}(l:List α)(i j:Nat)(v d:α):(l.set i v).getD j d=if i=j/\i<l.length then v else l.getD j d:=by
 simp only[gV,p3];by_cases h:i=j
 ·subst h;by_cases a:i<l.length
  ·simp[a]
  ·simp[a]
 ·simp[h]
theorem PT.add{g:List Nat}{W k:Nat}{D0:DB}{c0:List Nat}{R:zx}(h:PT g W k D0 c0 R)(h3:∀a∈g,a<=3){p:Nat}(G:p<g.length){row:zk}(A:Pp (g.getD p 0) row)(hs:P6 W row){mr:Nat}(hc:R.count<=mr)(hm:mr<=1048576):
  ∃B ok,kN mr R p row=some (B,ok)/\PT g W k D0 c0 B/\B.jh=R.jh/\(zxy g B p row).isSome=true/\(∀q x,x∈R.qo.getD q []->x∈B.qo.getD q [])/\(∀q x,x∈B.qo.getD q []->x∈R.qo.getD q []∨q=p/\x=row)/\(ok=true->B.count<=mr)/\(ok=false->B.count>mr):=by
 have f:p<R.rows.length:=by rw[h.inv.len];exact G
 have w:p<R.qo.length:=by rw[h.flen];exact G
 obtain⟨V,t2,M,t4⟩:=h.inv.tries p f;have K:g.getD p 0<=3:=by rw[Ph _ G];exact h3 _ (zu G)
 have ab:=eP R.rows p f;rw[←h.inv.cnt] at ab;have Y:=h.cnts p f;have H:=(E3 R.rows[p] row).2 (by rw[t2];exact hs);obtain⟨P,S,L,I,a5,U,O⟩:=V.add row R.qx A.1 H;have ad:(row.take R.rows[p].ql).length=R.rows[p].ql:=by
  rw[qa,A.1,M];have:=(fm (g.getD p 0)).2;omega
 have N:=fun x (i:Pp (g.getD p 0) x)=>V.mark x i.1;have u:R.rows.getD p zi.zero=R.rows[p]:=Ph _ f;have s:zxy g R p row=uf R.rows[p] (row.take R.rows[p].ql):=by
  unfold zxy;rw[zb ⟨G,A⟩,u,N row A]
 unfold kN;rw[zb ⟨f,w,by rw[u];exact V.okT (by omega),by omega,by omega⟩,u];cases hA:addP R.rows[p] row R.qx with
 |mk T b=>
  rw[hA] at P S L I a5 U O;simp only at P S L I a5 U O;cases b with
  |false=>
   have hT:=a5 rfl;subst hT;have C:=sW f;refine⟨{R with rows:=R.rows.set p R.rows[p]},true,rfl,?_,rfl,?_,fun q x i=>i,fun q x i=>zf i,fun _=>hc,fun q=>by cases q⟩
   ·rw[C];exact h
   ·rw[C];show(zxy g R p row).isSome=true;rw[s];rw[←Option.not_isNone,←I];rfl
  |true=>
   have o:uf R.rows[p] (row.take R.rows[p].ql)=none:=by
    cases j:uf R.rows[p] (row.take R.rows[p].ql) with
    |none=>rfl
    |some m=>rw[j] at I;cases I
   have v:D0 p row=none/\row∉R.qo.getD p []:=by
    have:=h.abs p row;rw[s,o] at this;cases j:D0 p row with
    |some m=>rw[j] at this;cases this
    |none=>
     rw[j] at this;refine⟨rfl,fun Q=>?_⟩;simp only at this;rw[zb Q] at this;cases this
   have J:R.qo.getD p []=R.qo[p]:=Ph _ w;have ac:=KM R.rows p T f;have E:=U rfl;have aa:(R.rows.set p T).length=R.rows.length:=by simp
   have hinv:vQ g W {R with rows:=R.rows.set p T,qo:=R.qo.set p (R.qo.getD p []++[row]),count:=R.count+1}:=by
    refine⟨by simp[h.inv.len],fun q j=>?_,?_⟩
    ·simp only[la] at j;simp only[m5];by_cases e:p=q
     ·subst e;simp only[if_true];refine⟨P,by rw[S,t2],by rw[L,M],fun x i=>?_⟩;obtain⟨Z,X⟩:=(qT T x).1 i;rw[L] at Z ⊢;rw[O x Z] at X;by_cases F:x=row.take R.rows[p].ql
      ·rw[F,M,DS K A];exact A
      ·rw[za F] at X;exact t4 x ((qT R.rows[p] x).2 ⟨Z,X⟩)
     ·simp only[e,if_false];exact h.inv.tries q j
    ·show R.count+1=((R.rows.set p T).map (·.count)).sum;rw[h.inv.cnt];omega
   have r:∀q,(R.rows.set p T).getD q zi.zero=if p=q then T else R.rows.getD q zi.zero:=fun q=>by
    rw[Co];by_cases e:p=q
    ·rw[zb ⟨e,f⟩,zb e]
    ·rw[za (fun x=>e x.1),za e]
   have c:∀q,(R.qo.set p (R.qo.getD p []++[row])).getD q []=if p=q then R.qo.getD p []++[row] else R.qo.getD q []:=fun q=>by
    rw[Co];by_cases e:p=q
    ·rw[zb ⟨e,w⟩,zb e]
    ·rw[za (fun x=>e x.1),za e]
   have l:∀q x,zxy g {R with rows:=R.rows.set p T,qo:=R.qo.set p (R.qo.getD p []++[row]),count:=R.count+1} q x=if q=p/\x=row then some k else zxy g R q x:=by
    intro q x;unfold zxy;simp only[r];by_cases e:p=q
    ·subst e;simp only[if_true,true_and];by_cases d:p<g.length/\Pp (g.getD p 0) x
     ·rw[zb d,zb d,u,N x d.2,P.mark x d.2.1,L,O _ (by rw[qa,d.2.1,M];have:=(fm (g.getD p 0)).2;omega)];by_cases F:x=row
      ·subst F;rw[zb rfl,zb rfl,o,h.qx];rfl
      ·rw[za F,za];intro D;rw[M] at D;exact F (Ot K d.2 A D)
     ·rw[za d,za d,za];rintro rfl;exact d ⟨G,A⟩
    ·simp only[e,if_false];rw[za (fun z:q=p/\x=row=>e z.1.symm)]
   refine⟨{R with rows:=R.rows.set p T,qo:=R.qo.set p (R.qo.getD p []++[row]),count:=R.count+1},decide (R.count+1<=mr),rfl,⟨hinv,h.qx,by simp[h.flen],fun q j=>?_,fun q x=>?_,fun q j=>?_⟩,rfl,?_,fun q x i=>?_,fun q x i=>?_,fun q=>by simpa using q,fun q=>by simpa using q⟩
   ·have n:q<R.qo.length:=by simpa using j
    have e:(R.qo.set p (R.qo.getD p []++[row]))[q]=(R.qo.set p (R.qo.getD p []++[row])).getD q []:=(Ph _ j).symm;show((R.qo.set p (R.qo.getD p []++[row]))[q]).Nodup/\_;rw[e,c q];by_cases D:p=q
    ·subst D;rw[zb rfl,J];obtain⟨n1,n2⟩:=h.qo p w;rw[J] at v;refine⟨?_,fun x i=>?_⟩
     ·rw[nY];exact⟨n1,by simp,fun x i y hy=>by simp at hy;subst hy;rintro rfl;exact v.2 i⟩
     ·rcases zW.1 i with q|q
      ·exact n2 x q
      ·simp at q;subst q;exact⟨A,hs,v.1⟩
    ·rw[za D,Ph _ n];exact h.qo q n
   ·rw[l];show _=match D0 q x with|some m=>some m|none=>if x∈(R.qo.set p (R.qo.getD p []++[row])).getD q [] then some k else none
    rw[c q,h.abs q x];by_cases e:q=p/\x=row
    ·obtain⟨rfl,rfl⟩:=e;rw[zb ⟨rfl,rfl⟩,v.1];simp
    ·rw[za e];cases D0 q x with
     |some m=>rfl
     |none=>
      simp only;by_cases D:p=q
      ·subst D;rw[zb rfl];have:x≠row:=fun e3=>e ⟨rfl,e3⟩;simp[this]
      ·rw[za D]
   ·have n:q<R.rows.length:=by simpa using j
    show(R.rows.set p T)[q].count=c0.getD q 0+((R.qo.set p (R.qo.getD p []++[row])).getD q []).length;rw[c q,←Ph zi.zero j,r q];by_cases e:p=q
    ·subst e;rw[zb rfl,zb rfl,E,Y];simp;omega
    ·rw[za e,za e,Ph _ n];exact h.cnts q n
   ·rw[l,zb ⟨rfl,rfl⟩];rfl
   ·show x∈(R.qo.set p (R.qo.getD p []++[row])).getD q [];rw[c q];by_cases e:p=q
    ·subst e;rw[zb rfl];exact List.mem_append_left _ i
    ·rw[za e];exact i
   ·have t:x∈(R.qo.set p (R.qo.getD p []++[row])).getD q []:=i;rw[c q] at t;by_cases e:p=q
    ·subst e;rw[zb rfl] at t;rcases zW.1 t with q|q
     ·exact zf q
     ·simp at q;exact ze ⟨rfl,q⟩
    ·rw[za e] at t;exact zf t
end
section
open Classical
variable {Ts Ns:List zi}{W:Nat}
theorem FA{r:zr}(d:fw r)(e:gM r Ts W){y:List Nat}(f:qP r Ts Ns y){p:Nat}(g:p<r.vars):y.getD p 0<W:=by
 obtain⟨l,m,j⟩:=d.safe p g;obtain⟨i,c,rfl⟩:=vl m;have b:i<Ts.length:=by rw[e.len];exact c
 obtain⟨_,_,o⟩:=e.ok i _ _ (yq c) (yq b);have n:=d.vars;have a:=(pk _ 5 p).2 ⟨by omega,j⟩;have h:yR r.qc[i]≠0:=by
  rw[gZ];intro q;rw[mw.1 q] at a;cases a
 have k:=(f.1 i _ _ (yq c) (yq b)).2 h;have:=ty _ 0 k (y.getD p 0) (zB.2 ⟨p,a,rfl⟩);omega
theorem Ae{l:zt}{a:Nat}(h:vM l a W)(g:0<W){y:List Nat}(f:∀p,zL l p=true->y.getD p 0<W):P6 W (zG l y):=by
 have j:∀i,Pa l y i<W:=by
  intro i;unfold Pa;split
  ·rename_i e;rw[show l.qg.getD i ⟨false,0,0⟩=l.qg[i] by simp[List.getD,e]];have d:=zu e;unfold Qj;split
   ·rename_i b;simp only[uZ,decide_eq_true_eq] at b;exact f _ ((fd l _).2 ⟨_,d,b.1,rfl⟩)
   ·rename_i b;cases c:l.qg[i].var with
    |true=>
     have:=(h.lev _ d c).1;simp[c,this] at b
    |false=>exact h.con _ d c
  ·exact g
 intro v b;simp only[zG,zw,lB,or_false] at b;rcases b with rfl|rfl|rfl<;>exact j _
theorem nk.mono{r:zr}{E i:zk->Prop}{J:z9}{M:Nat}(h:nk r Ts Ns W E J M)(g:∀x,E x->i x):nk r Ts Ns W i J M:=by
 rcases h with⟨c,b,e⟩|⟨l,d,f,c,b,e,k,j,m⟩
 ·exact zf ⟨c,b,fun y a=>g _ (e y a)⟩
 ·exact ze ⟨l,d,f,c,b,e,k,fun y a=>(j y a).imp (g _) id,m⟩
theorem PT.jh{a:List Nat}{W k:Nat}{D0:DB}{c0:List Nat}{R:zx}(h:PT a W k D0 c0 R)(m:Int):PT a W k D0 c0 {R with jh:=m}:=
 ⟨⟨h.inv.len,h.inv.tries,h.inv.cnt⟩,h.qx,h.flen,h.qo,h.abs,h.cnts⟩
theorem PT.grow{b:List Nat}{k:Nat}{D0:DB}{c0:List Nat}{R R':zx}(h:PT b W k D0 c0 R)(d:PT b W k D0 c0 R')(f:∀q x,x∈R.qo.getD q []->x∈R'.qo.getD q []){p:Nat}{x:zk}(a:(zxy b R p x).isSome=true):(zxy b R' p x).isSome=true:=by
 rw[h.abs] at a;rw[d.abs];cases e:D0 p x with
 |some m=>rfl
 |none=>
  rw[e] at a;simp only at a ⊢;by_cases c:x∈R.qo.getD p []
  ·rw[zb (f p x c)];rfl
  ·rw[za c] at a;cases a
structure B3 (ar:List Nat) (W k:Nat) (D0:DB) (c0:List Nat) (p mr:Nat) (sol:zk->Prop) (R R':zx) (ok:Bool):Prop where
 mid:PT ar W k D0 c0 R'
 mono:∀q x,x∈R.qo.getD q []->x∈R'.qo.getD q []
 sound:∀q x,x∈R'.qo.getD q []->x∈R.qo.getD q []∨q=p/\sol x
 yes:ok=true->R'.count<=mr/\∀x,sol x->(zxy ar R' p x).isSome=true
 no:ok=false->R'.count>mr
theorem GF{d:List Nat}{k:Nat}{D0:DB}{c0:List Nat}{r:zr}(t:fw r)(E:gM r Ts W)(Y:∀a∈d,a<=3)(P:0<W)(hp:r.head.pred<d.length)(D:vM r.head (d.getD r.head.pred 0) W)(A:Nat)(G:W*(r.qc.length+1)+r.qc.length<=A){mr:Nat}(m:mr<=1048576):
  ∀(n:Nat) (R:zx) (J:z9) (M:Nat),PT d W k D0 c0 R->R.count<=mr->nk r Ts Ns W (fun x=>(zxy d R r.head.pred x).isSome=true) J M->M+A+2<n->∃w ok,qL mr r.head.pred n R J=some (w,ok)/\B3 d W k D0 c0 r.head.pred mr (fun x=>∃y,qP r Ts Ns y/\x=zG r.head y) R w ok:=by
 intro n;induction n with
 |zero=>intro R J M _ _ _ h;omega
 |succ n S=>
  intro R J M h C N hn;obtain⟨f,b,Z,O,I⟩:=Gu t E _ A G n J M N (by omega);unfold qL;rw[Z];cases b with
  |false=>
   refine⟨_,true,rfl,h.jh _,fun q x c=>c,fun q x c=>zf c,fun _=>⟨C,?_⟩,fun q=>by cases q⟩;rintro x ⟨y,K,rfl⟩;exact O rfl y K
  |true=>
   obtain⟨s,Q,M',m3,T⟩:=I rfl;simp only;rw[Q];have i:=Ae D P fun p l=>FA t E s (t.head p l);obtain⟨F,ok,a1,g,_,H,v,B,U,V⟩:=h.add Y hp (tX D f.qy) i C m;rw[a1];cases ok with
   |false=>
    refine⟨F,false,rfl,g,v,fun q x c=>?_,(fun q=>by cases q),V⟩;rcases B q x c with z|⟨u,j⟩
    ·exact zf z
    ·exact ze ⟨u,f.qy,s,j⟩
   |true=>
    simp only;obtain⟨L,o,X,e⟩:=S F f M' g (U rfl) (T.mono fun x c=>by
     rcases c with q|q
     ·exact h.grow g v q
     ·rw[q];exact H) (by omega)
    refine⟨L,o,X,e.mid,fun q x c=>e.mono q x (v q x c),fun q x c=>?_,e.yes,e.no⟩;rcases e.sound q x c with z|z
    ·rcases B q x z with z|⟨u,j⟩
     ·exact zf z
     ·exact ze ⟨u,f.qy,s,j⟩
    ·exact ze z
end
section
open Classical
variable {r:zr}{ar c0:List Nat}{W wd mr:Nat}
def Pj(D:DB)(p:Nat)(x:zk):Prop:=(D p x).isSome=true
def Q9(r:zr)(D:DB)(x:zk):Prop:=∃y,(∀l∈r.qc,Pj D l.pred (zG l y))/\(∀l∈r.qp,D l.pred (zG l y)=none)/\x=zG r.head y
structure mX (r:zr) (ar:List Nat) (W:Nat):Prop where
 fine:fw r
 hpred:r.head.pred<ar.length
 head:vM r.head (ar.getD r.head.pred 0) W
 qc:∀l∈r.qc,l.pred<ar.length/\vM l (ar.getD l.pred 0) W
 qp:∀l∈r.qp,l.pred<ar.length/\vM l (ar.getD l.pred 0) W
def pJ(ar:List Nat)(D:DB):Prop:=∀p x,Pj D p x->p<ar.length/\Pp (ar.getD p 0) x
theorem C7(ar:List Nat)(R:zx):pJ ar (zxy ar R):=by
 intro p x h;unfold Pj zxy at h;split at h
 ·assumption
 ·cases h
theorem Ct(j:mX r ar W){R:zx}(q:vQ ar W R){g:List zi}{P:Nat->zk->Prop}(f:g.length=r.qc.length)(p:∀(i:Nat) (l:zt) (T:zi),r.qc[i]?=some l->g[i]?=some T->uF T l W (P i)/\∀x,P i x->Pp (ar.getD l.pred 0) x)(y:List Nat):
  qP r g (j0 wd R r) y↔(∀(i:Nat) (l:zt),r.qc[i]?=some l->P i (zG l y))/\∀l∈r.qp,zxy ar R l.pred (zG l y)=none:=by
 have b:∀l∈r.qp,xB (fT wd R l.pred) (zG l y)=zxy ar R l.pred (zG l y):=by
  intro l a;obtain⟨u,t⟩:=j.qp l a;unfold fT zxy;rw[za (by rw[q.len];omega),zb ⟨u,tX t y⟩]
 unfold qP j0;constructor
 ·rintro⟨o,k⟩;refine⟨fun i l a=>?_,fun l a=>?_⟩
  ·have d:i<g.length:=by rw[f];exact(jG.1 a).1
   obtain⟨n,h⟩:=p i l _ a (yq d);exact(n.sat (j.qc l (gz a)).2 h y).1 (o i l _ a (yq d))
  ·rw[←b l a];obtain⟨i,c,rfl⟩:=vl a;exact k (r.qp[i],fT wd R r.qp[i].pred) (kX.2 ⟨i,by simp[c],by simp⟩)
 ·rintro⟨o,k⟩;refine⟨fun i l T a m=>?_,fun x s=>?_⟩
  ·obtain⟨n,h⟩:=p i l T a m;exact(n.sat (j.qc l (gz a)).2 h y).2 (o i l a)
  ·obtain⟨i,c,rfl⟩:=kX.1 s;simp only[List.length_zip,uH] at c;have e:i<r.qp.length:=by omega
   simp only[List.getElem_zip,vO];rw[b _ (zu e)];exact k _ (zu e)
structure eF (ar:List Nat) (W:Nat) (w:yb) (r:zr) (D0 D:DB) (c:List Nat):Prop where
 rule:w.rule=r
 len:w.qm.length=r.qc.length
 qm:∀(i:Nat) (l:zt) (V:yL),r.qc[i]?=some l->w.qm[i]?=some V->mT V l W (Pj D0 l.pred) (Pj D l.pred) (fun x=>Pj D l.pred x/\¬Pj D0 l.pred x) (c.getD l.pred 0)
def f6(W:Nat)(r:zr):Nat:=vi W r.vars 0 [] 0+(W*(r.qc.length+1)+r.qc.length)+3
theorem CM{k:Nat}{D:DB}(g:mX r ar W)(H:∀a∈ar,a<=3)(F:0<W)(p:mr<=1048576){R:zx}(t:PT ar W k D c0 R)(E:R.count<=mr){h:List zi}{P:Nat->zk->Prop}(c:h.length=r.qc.length)(w:∀(i:Nat) (l:zt) (T:zi),r.qc[i]?=some l->h[i]?=some T->uF T l W (P i)/\∀x,P i x->Pp (ar.getD l.pred 0) x)(A:∀l∈r.qp,∀x,zxy ar R l.pred x=D l.pred x)(b:Nat)(o:f6 W r<=b):
  ∃j ok,qL mr r.head.pred b R (xF r h (j0 wd R r))=some (j,ok)/\B3 ar W k D c0 r.head.pred mr (fun x=>∃y,((∀(i:Nat) (l:zt),r.qc[i]?=some l->P i (zG l y))/\∀l∈r.qp,D l.pred (zG l y)=none)/\x=zG r.head y) R j ok:=by
 have C:gM r h W:=⟨c,fun i l T e s=>by obtain⟨v,_⟩:=w i l T e s;exact⟨v.ok,v.ql,by rw[v.qf];exact zh _⟩⟩;have B:vi W r.vars 0 [] 0+(W*(r.qc.length+1)+r.qc.length)+3<=b:=o;obtain⟨j,ok,I,f⟩:=GF (Ns:=j0 wd R r) (D0:=D) (c0:=c0) (k:=k) g.fine C H F g.hpred g.head _ (zh _) p b R _ _ t E (LT g.fine C _) (by omega);have d:∀x,(∃y,qP r h (j0 wd R r) y/\x=zG r.head y)↔∃y,((∀(i:Nat) (l:zt),r.qc[i]?=some l->P i (zG l y))/\∀l∈r.qp,D l.pred (zG l y)=none)/\x=zG r.head y:=by
  intro x;constructor
  ·rintro⟨y,m,u⟩;obtain⟨J,G⟩:=(Ct g t.inv c w y).1 m;exact⟨y,⟨J,fun l e=>by rw[←A l e];exact G l e⟩,u⟩
  ·rintro⟨y,m,u⟩;exact⟨y,(Ct g t.inv c w y).2 ⟨m.1,fun l e=>by rw[A l e];exact m.2 l e⟩,u⟩
 exact⟨j,ok,I,f.mid,f.mono,fun q x n=>(f.sound q x n).imp id fun z=>⟨z.1,(d x).1 z.2⟩,fun q=>⟨(f.yes q).1,fun x n=>(f.yes q).2 x ((d x).2 n)⟩,f.no⟩
structure sU (ar:List Nat) (W k:Nat) (D:DB) (c0:List Nat) (mr:Nat) (want:Nat->zk->Prop) (R R':zx) (ok:Bool):Prop where
 mid:PT ar W k D c0 R'
 mono:∀q x,x∈R.qo.getD q []->x∈R'.qo.getD q []
 sound:∀q x,x∈R'.qo.getD q []->x∈R.qo.getD q []∨want q x
 yes:ok=true->R'.count<=mr
 no:ok=false->R'.count>mr
theorem Hu{k:Nat}{D0 D:DB}{w:yb}(t:eF ar W w r D0 D c0)(H:pJ ar D)(I:mX r ar W)(J:∀a∈ar,a<=3)(E:0<W)(p:mr<=1048576){R:zx}(G:PT ar W k D c0 R)(B:R.count<=mr)(A:∀l∈r.qp,∀x,zxy ar R l.pred x=D l.pred x)(b:Nat)(o:f6 W r<=b):
  ∃h ok,dM b wd mr true R w=some (h,ok)/\sU ar W k D c0 mr (fun q x=>q=r.head.pred/\Q9 r D x) R h ok/\(ok=true->∀x,Q9 r D x->Pj (zxy ar h) r.head.pred x):=by
 have K:∀(i:Nat) (l:zt) (T:zi),r.qc[i]?=some l->(w.qm.map (·.all))[i]?=some T->uF T l W ((fun i x=>∃l,r.qc[i]?=some l/\Pj D l.pred x) i)/\∀x,(fun i x=>∃l,r.qc[i]?=some l/\Pj D l.pred x) i x->Pp (ar.getD l.pred 0) x:=by
  intro i l T d j;simp only[hX,vr] at j;obtain⟨V,C,rfl⟩:=j;refine⟨(t.qm i l V d C).all.congr fun x=>⟨fun q=>⟨l,d,q⟩,fun⟨m,c,f⟩=>?_⟩,fun x ⟨m,c,f⟩=>?_⟩
  ·rw[d] at c;simp only[zs] at c;subst c;exact f
  ·rw[d] at c;simp only[zs] at c;subst c;exact(H _ x f).2
 obtain⟨h,ok,L,g⟩:=CM (wd:=wd) I J E p G B (by simp[t.len]) K A b o;have e:∀x,(∃y,((∀(i:Nat) (l:zt),r.qc[i]?=some l->(∃m,r.qc[i]?=some m/\Pj D m.pred (zG l y)))/\∀l∈r.qp,D l.pred (zG l y)=none)/\x=zG r.head y)↔Q9 r D x:=by
  intro x;constructor
  ·rintro⟨y,⟨c,f⟩,s⟩;refine⟨y,fun l d=>?_,f,s⟩;obtain⟨i,v,rfl⟩:=vl d;obtain⟨m,u,F⟩:=c i _ (yq v);rw[yq v] at u;simp only[zs] at u;subst u;exact F
  ·rintro⟨y,c,f,s⟩;exact⟨y,⟨fun i l d=>⟨l,d,c l (gz d)⟩,f⟩,s⟩
 unfold dM;rw[zb rfl,t.rule];exact⟨h,ok,L,⟨g.mid,g.mono,fun q x n=>(g.sound q x n).imp id fun z=>⟨z.1,(e x).1 z.2⟩,fun q=>(g.yes q).1,g.no⟩,fun q x n=>(g.yes q).2 x ((e x).2 n)⟩
def QH(r:zr)(D0 D:DB)(i:Nat)(y:List Nat):Prop:=∃(j:Nat) (l:zt),i<=j/\r.qc[j]?=some l/\Pj D l.pred (zG l y)/\¬Pj D0 l.pred (zG l y)/\(∀(t:Nat) (a:zt),r.qc[t]?=some a->(t<j->Pj D0 a.pred (zG a y))/\(j<t->Pj D a.pred (zG a y)))/\∀l∈r.qp,D l.pred (zG l y)=none
theorem Nd{k:Nat}{D0 D:DB}{w:yb}(K:eF ar W w r D0 D c0)(U:pJ ar D)(P:∀p x,Pj D0 p x->Pj D p x)(hr:mX r ar W)(h3:∀a∈ar,a<=3)(hW:0<W)(ad:mr<=1048576)(u:Nat)(ac:f6 W r<=u)(ae:∀l∈r.qp,l.pred≠r.head.pred):
  ∀(n i:Nat) (R:zx),i+n=w.qm.length->PT ar W k D c0 R->R.count<=mr->(∀l∈r.qp,∀x,zxy ar R l.pred x=D l.pred x)->∃R' ok,kw u wd mr w n i R=some (R',ok)/\sU ar W k D c0 mr (fun q x=>q=r.head.pred/\Q9 r D x) R R' ok/\(ok=true->∀y,QH r D0 D i y->Pj (zxy ar R') r.head.pred (zG r.head y)):=by
 intro n;induction n with
 |zero=>
  intro i R hi O S _;refine⟨R,true,rfl,⟨O,fun q x c=>c,fun q x c=>zf c,fun _=>S,fun q=>by cases q⟩,fun _ y N=>?_⟩;obtain⟨j,l,b,d,_⟩:=N;have:=(jG.1 d).1;have:=K.len;omega
 |succ n ih=>
  intro i R hi O S Y;have J:i<w.qm.length:=by omega
  have A:i<r.qc.length:=by rw[←K.len];exact J
  have hV:=K.qm i _ _ (yq A) (yq J);have Z:=(hr.qc _ (zu A)).2;have hg:w.qm.getD i ⟨⟨0,[]⟩,zi.zero,zi.zero,zi.zero⟩=w.qm[i]:=Ph _ J;unfold kw;rw[hg];by_cases v:w.qm[i].qo.count>0
  ·rw[zb v];have hT:∀(t:Nat) (l:zt) (T:zi),r.qc[t]?=some l->(Py w.qm i)[t]?=some T->uF T l W ((fun t x=>∃l,r.qc[t]?=some l/\(t<i->Pj D0 l.pred x)/\(t=i->Pj D l.pred x/\¬Pj D0 l.pred x)/\(i<t->Pj D l.pred x)) t)/\∀x,(fun t x=>∃l,r.qc[t]?=some l/\(t<i->Pj D0 l.pred x)/\(t=i->Pj D l.pred x/\¬Pj D0 l.pred x)/\(i<t->Pj D l.pred x)) t x->Pp (ar.getD l.pred 0) x:=by
    intro t l T h G;unfold Py at G;simp only[hX,vr,List.getElem?_zipIdx] at G;obtain⟨⟨V,j⟩,⟨V',af,Q⟩,rfl⟩:=G;simp only[uL,yo] at Q;obtain⟨rfl,rfl⟩:=Q;have F:=K.qm t l V' h af;have M:∀x,(∃l,r.qc[t]?=some l/\(t<i->Pj D0 l.pred x)/\(t=i->Pj D l.pred x/\¬Pj D0 l.pred x)/\(i<t->Pj D l.pred x))->Pp (ar.getD l.pred 0) x:=by
     rintro x ⟨f,b,d,s,C⟩;rw[h] at b;simp only[zs] at b;subst b;rcases nQ t i with z|z|z
     ·exact(U _ x (P _ x (d z))).2
     ·exact(U _ x (s z).1).2
     ·exact(U _ x (C z)).2
    refine⟨?_,M⟩;simp only;by_cases h1:t<i
    ·rw[zb h1];refine F.before.congr fun x=>⟨fun q=>⟨l,h,fun _=>q,fun z=>by omega,fun z=>by omega⟩,fun⟨f,b,d,_,_⟩=>?_⟩;rw[h] at b;simp only[zs] at b;subst b;exact d h1
    ·rw[za h1];by_cases h2:t=i
     ·rw[zb h2];refine F.qo.congr fun x=>⟨fun q=>⟨l,h,fun z=>by omega,fun _=>q,fun z=>by omega⟩,fun⟨f,b,_,s,_⟩=>?_⟩;rw[h] at b;simp only[zs] at b;subst b;exact s h2
     ·rw[za h2];refine F.all.congr fun x=>⟨fun q=>⟨l,h,fun z=>by omega,fun z=>by omega,fun _=>q⟩,fun⟨f,b,_,_,C⟩=>?_⟩;rw[h] at b;simp only[zs] at b;subst b;exact C (by omega)
   obtain⟨R1,ok,a1,o⟩:=CM (wd:=wd) hr h3 hW ad O S (by simp[Py,K.len]) hT Y u ac;rw[K.rule,a1];have e:∀x,(∃y,((∀(t:Nat) (l:zt),r.qc[t]?=some l->(∃f,r.qc[t]?=some f/\(t<i->Pj D0 f.pred (zG l y))/\(t=i->Pj D f.pred (zG l y)/\¬Pj D0 f.pred (zG l y))/\(i<t->Pj D f.pred (zG l y))))/\∀l∈r.qp,D l.pred (zG l y)=none)/\x=zG r.head y)->Q9 r D x:=by
    rintro x ⟨y,⟨b,d⟩,s⟩;refine⟨y,fun l h=>?_,d,s⟩;obtain⟨t,ht,rfl⟩:=vl h;obtain⟨f,s1,s2,s3,s4⟩:=b t _ (yq ht);rw[yq ht] at s1;simp only[zs] at s1;subst s1;rcases nQ t i with z|z|z
    ·exact P _ _ (s2 z)
    ·exact(s3 z).1
    ·exact s4 z
   cases ok with
   |false=>
    exact⟨R1,false,rfl,⟨o.mid,o.mono,fun q x c=>(o.sound q x c).imp id fun z=>⟨z.1,e x z.2⟩,(fun q=>by cases q),o.no⟩,fun q=>by cases q⟩
   |true=>
    simp only;obtain⟨b1,b2⟩:=o.yes rfl;have ag:∀l∈r.qp,∀x,zxy ar R1 l.pred x=D l.pred x:=by
     intro l h x;have ab:=ae l h;rw[o.mid.abs,←Y l h x,O.abs];cases hq:D l.pred x with
     |some m=>rfl
     |none=>
      simp only;by_cases c:x∈R.qo.getD l.pred []
      ·rw[zb c,zb (o.mono _ x c)]
      ·rw[za c,za];intro aa;rcases o.sound _ x aa with z|z
       ·exact c z
       ·exact ab z.1
    obtain⟨R2,I,c1,B,c3⟩:=ih (i+1) R1 (by omega) o.mid b1 ag;refine⟨R2,I,c1,⟨B.mid,fun q x c=>B.mono q x (o.mono q x c),fun q x c=>?_,B.yes,B.no⟩,fun E y N=>?_⟩
    ·rcases B.sound q x c with z|z
     ·exact(o.sound q x z).imp id fun z=>⟨z.1,e x z.2⟩
     ·exact ze z
    ·obtain⟨j,l,b,d,s,C,L,X⟩:=N;by_cases H:j=i
     ·subst H;refine o.mid.grow B.mid B.mono (b2 _ ⟨y,⟨fun t f g=>⟨f,g,fun z=>(L t f g).1 z,fun z=>?_,fun z=>(L t f g).2 z⟩,X⟩,rfl⟩);subst z;rw[d] at g;simp only[zs] at g;subst g;exact⟨s,C⟩
     ·exact c3 E y ⟨j,l,by omega,d,s,C,L,X⟩
  ·rw[za v];obtain⟨R2,I,c1,B,c3⟩:=ih (i+1) R (by omega) O S Y;refine⟨R2,I,c1,B,fun E y N=>?_⟩;obtain⟨j,l,b,d,s,C,L,X⟩:=N;by_cases H:j=i
   ·subst H;rw[yq A] at d;simp only[zs] at d;subst d;have hs:=(hV.qo.sat Z (fun x c=>(U _ x c.1).2) y).2 ⟨s,C⟩;exact zC (Nat.pos_of_ne_zero (hs.count hV.qo.ok hV.qo.ql (hr.fine.qg _ (zu A)))) v
   ·exact c3 E y ⟨j,l,by omega,d,s,C,L,X⟩
end
end Go.Proofs.YteampbddflhngaaGreat
