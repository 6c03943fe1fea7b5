import Derived.Test.YteampbddflhngaaGreatZ15
import Derived.Test.YteampbddflhngaaGreatZ16
namespace Go.Proofs.YteampbddflhngaaGreat
set_option linter.all false
section
variable {t:List zh}
def Q8(t:List zh):κ:=t.map zh.name
theorem t7:∀(t:List zh) (n:ByteArray),∀e∈t.take (zV t n),QY e.name n=true
 |[],_,e,h=>by simp at h
 |a::r,n,e,h=>by
  unfold zV at h;cases b:QY a.name n with
  |false=>simp[b] at h
  |true=>
   simp only[b,if_true,nR,zx] at h;rcases h with rfl|h
   ·exact b
   ·exact t7 r n e h
theorem tx:∀(t:List zh) (n:ByteArray),yB (Q8 t)->∀e∈t.drop (zV t n),QY e.name n=false
 |[],_,_,e,h=>by simp at h
 |a::r,n,f,e,h=>by
  have b:yB (a.name::Q8 r):=f;unfold yB at b;rw[pF] at b;unfold zV at h;cases c:QY a.name n with
  |true=>
   simp only[c,if_true,l5] at h;exact tx r n b.2 e h
  |false=>
   simp only[c,gL,if_false,gU,zx] at h;rcases h with rfl|h
   ·exact c
   ·cases d:QY e.name n with
    |false=>rfl
    |true=>
     have:=lt_trans (b.1 e.name (zy.2 ⟨e,h,rfl⟩)) d;rw[c] at this;cases this
theorem nH{n:ByteArray}{e:zh}(h:yo t n=some e):e∈t/\e.name=n:=by
 obtain⟨c,a,b⟩:=jR h;exact⟨by rw[←a];exact zs c,b⟩
theorem nz{n:ByteArray}(k:yB (Q8 t))(h:yo t n=none):∀e∈t,e.name≠n:=by
 intro e a f;rw[←qZ (zV t n) t,zI] at a;rcases a with a|a
 ·have:=t7 t n e a;rw[f,QK] at this;cases this
 ·rcases tW h with j|⟨j,d⟩
  ·rw[ue (by omega)] at a;cases a
  ·have g:=xp j;have i:=tx t n k t[zV t n] (by rw[g];exact ro);rw[g,zx] at a;rcases a with rfl|a
   ·exact d f
   ·have c:yB (Q8 (t.drop (zV t n))):=by
     unfold yB Q8 at *;rw[List.map_drop];exact k.sublist (List.drop_sublist _ _)
    rw[g] at c;have b:yB (t[zV t n].name::Q8 (t.drop (zV t n+1))):=c;unfold yB at b;rw[pF] at b;have:=b.1 e.name (zy.2 ⟨e,a,rfl⟩);rw[f,i] at this;cases this
theorem rR{x e:zh}{k:Nat}:e∈vr t x k↔e=x∨e∈t:=by
 unfold vr;rw[zI,zx];constructor
 ·rintro(h|h|h)
  ·exact zb (fS h)
  ·exact zf h
  ·exact zb (dK h)
 ·rintro(h|h)
  ·exact zb (zf h)
  ·rw[←qZ k t,zI] at h;rcases h with h|h
   ·exact zf h
   ·exact zb (zb h)
theorem Hh{x:zh}(i:yB (Q8 t))(l:∀e∈t,e.name≠x.name):yB (Q8 (vr t x (zV t x.name))):=by
 have k:=t7 t x.name;have m:=tx t x.name i;have g:∀e∈t.drop (zV t x.name),QY x.name e.name=true:=by
  intro e d;cases j:QY x.name e.name with
  |true=>rfl
  |false=>exact zC (tO (m e d) j) (l e (dK d))
 have c:=i;rw[←qZ (zV t x.name) t] at c;unfold yB Q8 at c ⊢;unfold vr;rw[uQ,ph] at c;rw[uQ,xI,ph,pF];refine⟨c.1,⟨?_,c.2.1⟩,?_⟩
 ·intro b f;obtain⟨e,d,rfl⟩:=zy.1 f;exact g e d
 ·intro a h b f;obtain⟨e,d,rfl⟩:=zy.1 h;rcases zx.1 f with rfl|f
  ·exact k e d
  ·exact c.2.2 _ h b f
structure RL (t:List zh) (ls:List zj):Prop where
 rise:yB (Q8 t)
 names:∀n,n∈Q8 t↔∃l∈ls,l.pred=n
 jh:∀e∈t,∀l∈ls,l.pred=e.name->l.args.length=e.jh
theorem RL.step{v:List zh}{s:List zj}{l:zj}(h:RL t s)(i:vI t l=some v):RL v (s++[l]):=by
 unfold vI at i;split at i
 ·rename_i e r;obtain⟨c,p⟩:=nH r;split at i
  ·rename_i q;simp only[zt] at i;subst i;refine⟨h.rise,fun n=>?_,fun m g d a b=>?_⟩
   ·rw[h.names];constructor
    ·rintro⟨d,a,b⟩;exact⟨d,by simp[a],b⟩
    ·rintro⟨d,a,b⟩;rcases zI.1 a with a|a
     ·exact⟨d,a,b⟩
     ·simp at a;subst a;exact(h.names n).1 (zy.2 ⟨e,c,by rw[p,b]⟩)
   ·rcases zI.1 a with a|a
    ·exact h.jh m g d a b
    ·simp at a;subst a;obtain⟨u,k,o⟩:=(h.names e.name).1 (zy.2 ⟨e,c,rfl⟩);rw[←q,←h.jh e c u k o];exact h.jh m g u k (by rw[o,p,b])
  ·cases i
 ·rename_i r;simp only[zt] at i;subst i;have f:=nz h.rise r;refine⟨Hh h.rise f,fun n=>?_,fun m g d a b=>?_⟩
  ·constructor
   ·intro p;obtain⟨e,c,rfl⟩:=zy.1 p;rcases rR.1 c with rfl|c
    ·exact⟨l,by simp,rfl⟩
    ·obtain⟨d,a,b⟩:=(h.names e.name).1 (zy.2 ⟨e,c,rfl⟩);exact⟨d,by simp[a],b⟩
   ·rintro⟨d,a,b⟩;rcases zI.1 a with a|a
    ·obtain⟨e,c,j⟩:=zy.1 ((h.names n).2 ⟨d,a,b⟩);exact zy.2 ⟨e,rR.2 (zb c),j⟩
    ·simp at a;subst a;exact zy.2 ⟨_,rR.2 (zf rfl),b⟩
  ·rcases rR.1 g with rfl|c
   ·rcases zI.1 a with a|a
    ·obtain⟨e,c,j⟩:=zy.1 ((h.names d.pred).2 ⟨d,a,rfl⟩);exact zC (j.trans b) (f e c)
    ·simp at a;subst a;rfl
   ·rcases zI.1 a with a|a
    ·exact h.jh m c d a b
    ·simp at a;subst a;exact zC b.symm (f m c)
theorem Fn:∀(b done:List zj) (t a:List zh),RL t done->b.foldl ul (some t)=some a->RL a (done++b)
 |[],done,t,a,h,e=>by simp at e;subst e;simpa using h
 |l::b,done,t,a,h,e=>by
  rw[ut] at e;cases c:vI t l with
  |none=>rw[show ul (some t) l=none from c,nZ] at e;cases e
  |some d=>
   rw[show ul (some t) l=some d from c] at e;have:=Fn b (done++[l]) d a (h.step c) e;rwa [kH] at this
theorem wD:RL [] []:=⟨List.Pairwise.nil,fun n=>by simp[Q8],fun e a=>by cases a⟩
theorem Bq{cs:List zd}(h:ui cs=some t):RL t (cs.flatMap zk):=by
 have:=Fn (cs.flatMap zk) [] [] t wD h;simpa using this
end
section
variable {cs:List zd}{f:ByteArray->Nat}
def up(l:zj):Nat:=if l.neg then 1 else 0
def R5(cs:List zd)(f:ByteArray->Nat):Prop:=∀c∈cs,∀l∈c.body,f l.pred+up l<=f c.head.pred
def Rn(cs:List zd)(f:ByteArray->Nat):Prop:=R5 cs f/\∀g,R5 cs g->∀n,f n<=g n
theorem Er{g:ByteArray->Nat}(r:R5 cs g):∃f,Rn cs f:=by
 have a:∀n,∃k,(∃h,R5 cs h/\h n=k)/\∀h,R5 cs h->k<=h n:=by
  intro n;have j:∀m,(∃h,R5 cs h/\h n<=m)->∃k,(∃h,R5 cs h/\h n=k)/\∀h,R5 cs h->k<=h n:=by
   intro m;induction m with
   |zero=>rintro⟨h,b,s⟩;exact⟨0,⟨h,b,by omega⟩,fun _ _=>zv _⟩
   |succ m u=>
    intro t;by_cases p:∃h,R5 cs h/\h n<=m
    ·exact u p
    ·obtain⟨h,b,s⟩:=t;have d:∀e,R5 cs e->m+1<=e n:=fun e i=>by
      false_or_by_contra;rename_i o;exact p ⟨e,i,by omega⟩
     exact⟨m+1,⟨h,b,by have:=d h b;omega⟩,d⟩
  exact j (g n) ⟨g,r,zg _⟩
 refine⟨fun n=>(a n).choose,fun c o l q=>?_,fun h b n=>(a n).choose_spec.2 h b⟩;obtain⟨⟨h,b,w⟩,-⟩:=(a c.head.pred).choose_spec;have v:=(a l.pred).choose_spec.2 h b;have x:=b c o l q;simp only;omega
theorem Sy:∀(N:Nat) (L:List Nat),(∀k,k<=N->k∈L)->N+1<=L.length
 |0,L,h=>by
  have:=h 0 (zg _);cases L with
  |nil=>cases this
  |cons=>simp
 |N+1,L,h=>by
  have a:=h (N+1) (zg _);have:=Sy N (L.erase (N+1)) fun k b=>(fV (by omega)).2 (h k (by omega));rw[lK a] at this;have:0<L.length:=m7 a;omega
theorem iV(h:Rn cs f){ps:κ}(g:∀c∈cs,∀l∈zk c,l.pred∈ps){n:ByteArray}(s:n∈ps):f n<ps.length:=by
 false_or_by_contra
 rename_i v;have u:∃k,k<=ps.length/\k∉ps.map f:=by
  apply Classical.byContradiction;intro b;have:=Sy ps.length (ps.map f) fun k p=>Classical.byContradiction fun d=>b ⟨k,p,d⟩;rw[uu] at this;omega
 obtain⟨k,p,i⟩:=u;have a:∀m∈ps,f m≠k:=fun m r e=>i (zy.2 ⟨m,r,e⟩);have q:R5 cs fun m=>if k<f m then f m-1 else f m:=by
  intro c j l o;have w:=h.1 c j l o;have y:=a l.pred (g c j l (by simp[zk,o]));have z:up l<=1:=by unfold up;split<;>omega
  simp only;split<;>split<;>omega
 have t:=h.2 _ q n;have x:=a n s;split at t<;>omega
theorem Pg{a b:ByteArray->Nat}(h:Rn cs f)(g:∀n,a n<=b n)(d:∀n,b n<=f n)(j:∀c∈cs,∀l∈c.body,a l.pred+up l<=b c.head.pred)
  (i:∀n,b n=f n->a n=f n):∀n,a n=f n:=by
 apply Classical.byContradiction;intro r;have ⟨n,x⟩:∃n,¬a n=f n:=Classical.byContradiction fun y=>r fun n=>Classical.byContradiction fun o=>y ⟨n,o⟩;have t:R5 cs fun m=>if a m=f m then f m else f m-1:=by
  intro c o l s;have u:=h.1 c o l s;have z:=j c o l s;have D:=g c.head.pred;have B:=d c.head.pred;have q:=i c.head.pred;have w:=g l.pred;have v:=d l.pred;have A:up l<=1:=by unfold up;split<;>omega
  simp only;by_cases p:a l.pred=f l.pred
  ·by_cases k:a c.head.pred=f c.head.pred
   ·rw[zc p,zc k];exact u
   ·have C:¬b c.head.pred=f c.head.pred:=fun e=>k (q e);rw[zc p,za k];omega
  ·by_cases k:a c.head.pred=f c.head.pred
   ·rw[za p,zc k];omega
   ·rw[za p,za k];omega
 have q:=h.2 _ t n;simp only[x,if_false] at q;have w:=g n;have v:=d n;omega
end
section
variable {t:List zh}
def val(t:List zh)(n:ByteArray):Nat:=match yo t n with
 |some e=>e.qh
 |none=>0
theorem oE:∀{t c:List zh},Q8 t=Q8 c->∀n,zV t n=zV c n
 |[],[],_,_=>rfl
 |[],_::_,h,_=>by simp[Q8] at h
 |_::_,[],h,_=>by simp[Q8] at h
 |a::r,b::q,h,n=>by
  simp only[Q8,xI,mU] at h;unfold zV;rw[h.1,oE h.2 n]
theorem CD{k:Nat}{e:zh}(d:k<t.length)(a:e.name=t[k].name):Q8 (t.set k e)=Q8 t:=by
 unfold Q8;rw[dU,a];apply kP (by simp);intro i c b;rw[lC];split
 ·rename_i h;subst h;simp
 ·rfl
theorem JA(t:List zh)(n:ByteArray)(s:Nat):Q8 (x9 t n s).1=Q8 t:=by
 unfold x9;split
 ·rfl
 ·rename_i e a;obtain⟨c,b,d⟩:=jR a;split
  ·rfl
  ·exact CD c (by rw[b])
theorem Hk{n:ByteArray}{e:zh}(s:Nat)(h:yo t n=some e)(m:ByteArray):yo (t.set (zV t n) {e with qh:=s}) m=if m=n then some {e with qh:=s} else yo t m:=by
 obtain⟨a,d,f⟩:=jR h;have g:zV (t.set (zV t n) {e with qh:=s}) m=zV t m:=oE (CD a (by rw[d])) m;unfold yo;rw[g,rF];by_cases c:m=n
 ·subst c;rw[zc rfl,zc rfl,zc a];simp[f]
 ·rw[za c];by_cases b:zV t n=zV t m
  ·rw[zc b,zc a,←b,yq a,d];simp[f,Ne.symm c]
  ·rw[za b]
theorem EI(t:List zh)(n:ByteArray)(s:Nat)(m:ByteArray):val (x9 t n s).1 m=if m=n/\(yo t n).isSome=true then max (val t n) s else val t m:=by
 unfold x9;cases b:yo t n with
 |none=>simp
 |some e=>
  simp only[jV,and_true];have d:val t n=e.qh:=by simp[val,b]
  split
  ·split
   ·rename_i c f;rw[f,d];omega
   ·rfl
  ·rename_i c;unfold val;rw[Hk s b m,b];by_cases a:m=n
   ·rw[zc a,zc a];simp only;omega
   ·rw[za a,za a]
theorem NR(t:List zh)(n:ByteArray)(s:Nat):((x9 t n s).2=false->(x9 t n s).1=t)/\((x9 t n s).2=true->val t n<val (x9 t n s).1 n):=by
 constructor
 ·unfold x9;split
  ·exact fun _=>rfl
  ·split
   ·exact fun _=>rfl
   ·intro h;cases h
 ·intro h;rw[EI];unfold x9 at h;split at h
  ·cases h
  ·rename_i e a;split at h
   ·cases h
   ·rename_i c;have b:val t n=e.qh:=by simp[val,a]
    rw[zc ⟨rfl,by simp[a]⟩];omega
theorem CJ{t:List zh}:∀(b:List zj) (n:Nat),n<=b.foldl (qA t) n/\∀l∈b,kf t l<=b.foldl (qA t) n
 |[],n=>⟨zg _,fun l c=>by cases c⟩
 |a::b,n=>by
  have ⟨e,d⟩:=CJ (t:=t) b (qA t n a);have f:n<=qA t n a/\kf t a<=qA t n a:=by unfold qA;split<;>omega
  rw[ut];refine⟨by omega,fun l c=>?_⟩;rcases zx.1 c with rfl|c
  ·omega
  ·exact d l c
theorem Bc{t:List zh}{M:Nat}:∀(b:List zj) (n:Nat),n<=M->(∀l∈b,kf t l<=M)->b.foldl (qA t) n<=M
 |[],n,h,_=>h
 |a::b,n,h,c=>by
  rw[ut];refine Bc b _ ?_ fun l d=>c l (by simp[d]);have:=c a (by simp);unfold qA;split<;>omega
theorem Nw{l:zj}(h:(yo t l.pred).isSome=true):kf t l=val t l.pred+up l:=by
 unfold kf val up;cases a:yo t l.pred with
 |none=>rw[a] at h;cases h
 |some e=>simp only;split<;>rfl
end
section
variable {t t':List zh}
theorem A7(t:List zh)(n:ByteArray):(yo t n).isSome=true↔(Q8 t)[zV t n]?=some n:=by
 unfold yo Q8;rw[lH];cases h:t[zV t n]? with
 |none=>simp
 |some e=>
  simp only[jy,zt];split<;>simp[*]
theorem EP(h:Q8 t=Q8 t')(n:ByteArray):(yo t n).isSome=true↔(yo t' n).isSome=true:=by
 rw[A7,A7,h,oE h n]
def kt(t:List zh)(cs:List zd):Prop:=∀c∈cs,∀l∈zk c,(yo t l.pred).isSome=true
theorem kt.names{cs:List zd}(h:kt t cs)(b:Q8 t=Q8 t'):kt t' cs:=fun c a l d=>(EP b _).1 (h c a l d)
structure Fr (x y:List zh×Bool) (ds:List zd):Prop where
 names:Q8 y.1=Q8 x.1
 grow:∀n,val x.1 n<=val y.1 n
 step:∀c∈ds,∀l∈c.body,val x.1 l.pred+up l<=val y.1 c.head.pred
 low:∀f,R5 ds f->(∀n,val x.1 n<=f n)->∀n,val y.1 n<=f n
 still:y.2=false->y.1=x.1/\x.2=false
 moved:y.2=true->x.2=true∨∃n,val x.1 n<val y.1 n
theorem Hd{x:List zh×Bool}{c:zd}(h:kt x.1 [c]):Fr x (vV x c) [c]:=by
 have s:=h c (by simp) c.head (by simp[zk]);have i:∀l∈c.body,kf x.1 l=val x.1 l.pred+up l:=fun l i=>Nw (h c (by simp) l (by simp[zk,i]));have o:=fun m=>EI x.1 c.head.pred (qM x.1 c) m;have p:=NR x.1 c.head.pred (qM x.1 c);refine⟨JA _ _ _,fun n=>?_,fun q g l d=>?_,fun f r a n=>?_,fun k=>?_,fun j=>?_⟩
 ·show _<=val (x9 _ _ _).1 n;rw[o];split
  ·rename_i e;rw[e.1];omega
  ·omega
 ·simp at g;subst g;show _<=val (x9 _ _ _).1 _;rw[o,zc ⟨rfl,s⟩,←i l d];have:=(CJ (t:=x.1) q.body 0).2 l d;unfold qM;omega
 ·show val (x9 _ _ _).1 n<=_;rw[o];split
  ·rename_i e;rw[e.1];have u:=a c.head.pred;have b:qM x.1 c<=f c.head.pred:=by
    unfold qM;refine Bc c.body 0 (zv _) fun l d=>?_;have:=r c (by simp) l d;have:=a l.pred;rw[i l d];omega
   omega
  ·exact a n
 ·have b:(x.2||(x9 x.1 c.head.pred (qM x.1 c)).2)=false:=k;rw[nX] at b;exact⟨p.1 b.2,b.1⟩
 ·have b:(x.2||(x9 x.1 c.head.pred (qM x.1 c)).2)=true:=j;rw[dX] at b;rcases b with b|b
  ·exact zf b
  ·exact zb ⟨_,p.2 b⟩
theorem rX:∀(k:List zd) (x:List zh×Bool),kt x.1 k->Fr x (k.foldl vV x) k
 |[],x,_=>⟨rfl,fun _=>zg _,fun c r=>by(cases r),fun _ _ h=>h,fun h=>⟨rfl,h⟩,fun h=>zf h⟩
 |c::k,x,h=>by
  have d:=Hd (x:=x) (c:=c) fun b a=>by simp at a;subst a;exact h b (by simp)
  have e:=rX k (vV x c) (kt.names (fun b a=>h b (by simp[a])) d.names.symm);rw[ut];refine⟨e.names.trans d.names,fun n=>yc (d.grow n) (e.grow n),fun b a l p=>?_,fun f q j=>?_,fun o=>?_,fun m=>?_⟩
  ·rcases zx.1 a with rfl|a
   ·exact yc (d.step b (by simp) l p) (e.grow _)
   ·have:=e.step b a l p;have:=d.grow l.pred;omega
  ·exact e.low f (fun b a=>q b (by simp[a])) (d.low f (fun b a=>by simp at a;subst a;exact q b (by simp)) j)
  ·have i:=e.still o;have g:=d.still i.2;exact⟨i.1.trans g.1,g.2⟩
  ·rcases e.moved m with i|⟨n,i⟩
   ·rcases d.moved i with g|⟨n,g⟩
    ·exact zf g
    ·exact zb ⟨n,xP g (e.grow n)⟩
   ·exact zb ⟨n,Nat.lt_of_le_of_lt (d.grow n) i⟩
theorem oa{n:ByteArray}(h:n∉Q8 t):val t n=0:=by
 unfold val;split
 ·rename_i e a;obtain⟨b,c⟩:=nH a;exact zC (zy.2 ⟨e,b,c⟩) h
 ·rfl
def rest(f:ByteArray->Nat)(t:List zh):Nat:=((Q8 t).filter fun n=>decide (val t n≠f n)).length
theorem KJ{f:ByteArray->Nat}(o:Q8 t'=Q8 t)(b:∀n,val t n=f n->val t' n=f n){m:ByteArray}(e:m∈Q8 t)(k:val t m≠f m)(p:val t' m=f m):rest f t'<rest f t:=by
 unfold rest;rw[o];generalize Q8 t=h at e;have j:∀l:κ,(l.filter fun n=>decide (val t' n≠f n)).length<=(l.filter fun n=>decide (val t n≠f n)).length:=by
  intro l;induction l with
  |nil=>simp
  |cons a l g=>
   by_cases c:val t a=f a
   ·simp[c,b a c];simpa using g
   ·by_cases d:val t' a=f a
    ·simp[c,d];have:=g;simp at this;omega
    ·simp[c,d];simpa using g
 induction h with
 |nil=>cases e
 |cons a h g=>
  have i:=j h;rcases zx.1 e with rfl|e
  ·simp[k,p];simp at i;omega
  ·have:=g e;by_cases c:val t a=f a
   ·simp[c,b a c];simpa using this
   ·by_cases d:val t' a=f a
    ·simp[c,d];simp at this;omega
    ·simp[c,d];simpa using this
theorem wt:∀(m:Nat) (t:List zh) (cs:List zd),kt t cs->Q8 (xH m t cs).1=Q8 t
 |0,_,_,_=>rfl
 |m+1,t,cs,h=>by
  have p:=rX cs (t,false) h;unfold xH;split
  ·exact(wt m _ cs (h.names p.names.symm)).trans p.names
  ·exact p.names
theorem Aq{f:ByteArray->Nat}:∀(m:Nat) (t:List zh) (cs:List zd),kt t cs->R5 cs f->(∀n,val t n<=f n)->∀n,val (xH m t cs).1 n<=f n
 |0,_,_,_,_,h=>h
 |m+1,t,cs,h,b,a=>by
  have p:=rX cs (t,false) h;have:=p.low f b a;unfold xH;split
  ·exact Aq m _ cs (h.names p.names.symm) b this
  ·exact this
theorem we:∀(m:Nat) (t:List zh) (cs:List zd),kt t cs->(xH m t cs).2=true->R5 cs (val (xH m t cs).1)
 |0,_,_,_,h=>by cases h
 |m+1,t,cs,h,d=>by
  have p:=rX cs (t,false) h;unfold xH at d ⊢;split at d
  ·rename_i a;rw[zc a];exact we m _ cs (h.names p.names.symm) d
  ·rename_i a;rw[za a];have g:=(p.still (by simpa [vT] using a)).1;intro c b l f;have e:=p.step c b l f;show val (cs.foldl vV (t,false)).1 l.pred+up l<=val (cs.foldl vV (t,false)).1 c.head.pred;rw[g] at e ⊢;exact e
theorem E3{f:ByteArray->Nat}{cs:List zd}(l:Rn cs f):∀(m:Nat) (t:List zh),kt t cs->(∀n,val t n<=f n)->rest f t<m->(xH m t cs).2=true
 |0,_,_,_,h=>by omega
 |m+1,t,h,b,v=>by
  have p:=rX cs (t,false) h;have a:=p.low f l.1 b;unfold xH;split
  ·rename_i g;refine E3 l m _ (h.names p.names.symm) a ?_;have j:¬∀n,val t n=f n:=by
    intro c;rcases p.moved g with d|⟨n,d⟩
    ·cases d
    ·have:=a n;have:=c n;simp only at d;omega
   have ⟨n,i,o⟩:∃n,val (cs.foldl vV (t,false)).1 n=f n/\val t n≠f n:=by
    apply Classical.byContradiction;intro e;exact j (Pg l p.grow a p.step fun n q=>Classical.byContradiction fun g=>e ⟨n,q,g⟩)
   have r:n∈Q8 t:=by
    apply Classical.byContradiction;intro e;have d:=oa e;have u:val (cs.foldl vV (t,false)).1 n=0:=oa (by rw[p.names];exact e);omega
   have:=KJ (f:=f) (t:=t) p.names (fun k s=>Nat.le_antisymm (a k) (by rw[←s];exact p.grow k)) r o i;show rest f (cs.foldl vV (t,false)).1<m;omega
  ·rfl
theorem wH{cs:List zd}(h:kt t cs)(b:∀n,val t n=0):((xH (t.length+1) t cs).2=true↔∃f,R5 cs f)/\((xH (t.length+1) t cs).2=true->Rn cs (val (xH (t.length+1) t cs).1)):=by
 refine⟨⟨fun e=>⟨_,we _ t cs h e⟩,?_⟩,fun e=>⟨we _ t cs h e,fun g a=>Aq _ t cs h a fun n=>by rw[b];omega⟩⟩;rintro⟨g,a⟩;obtain⟨f,c⟩:=Er a;refine E3 c _ t h (fun n=>by rw[b];omega) ?_;have:=p8 (fun n=>decide (val t n≠f n)) (Q8 t);have d:(Q8 t).length=t.length:=by simp[Q8]
 unfold rest;omega
end
end Go.Proofs.YteampbddflhngaaGreat
