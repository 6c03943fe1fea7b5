import Derived.Test.YteampbddflhngaaGreatZ15
import Derived.Test.YteampbddflhngaaGreatZ16
namespace Go.Proofs.YteampbddflhngaaGreat
set_option linter.all false
section
variable {t:List zh}
def QA(t:List zh):κ:=t.map zh.name
theorem wQ:∀(t:List zh) (n:ByteArray),∀e∈t.take (zV t n),Ra e.name n=true
 |[],_,e,h=>by simp at h
 |a::r,n,e,h=>by
  unfold zV at h;cases b:Ra a.name n with
  |false=>simp[b] at h
  |true=>
   simp only[b,if_true,nk,zx] at h;rcases h with rfl|h
   ·exact b
   ·exact wQ r n e h
theorem tN:∀(t:List zh) (n:ByteArray),yC (QA t)->∀e∈t.drop (zV t n),Ra e.name n=false
 |[],_,_,e,h=>by simp at h
 |a::r,n,f,e,h=>by
  have b:yC (a.name::QA r):=f;unfold yC at b;rw[nZ] at b;unfold zV at h;cases c:Ra a.name n with
  |true=>
   simp only[c,if_true,lI] at h;exact tN r n b.2 e h
  |false=>
   simp only[c,gJ,if_false,gR,zx] at h;rcases h with rfl|h
   ·exact c
   ·cases d:Ra e.name n with
    |false=>rfl
    |true=>
     have:=lt_trans (b.1 e.name (z7.2 ⟨e,h,rfl⟩)) d;rw[c] at this;cases this
theorem nA{n:ByteArray}{e:zh}(h:yo t n=some e):e∈t/\e.name=n:=by
 obtain⟨a,b,c⟩:=jV h;exact⟨by rw[←b];exact zs a,c⟩
theorem nY{n:ByteArray}(j:yC (QA t))(h:yo t n=none):∀e∈t,e.name≠n:=by
 intro e a g;rw[←jt (zV t n) t,zI] at a;rcases a with a|a
 ·have:=wQ t n e a;rw[g,QM] at this;cases this
 ·rcases tZ h with k|⟨k,f⟩
  ·rw[uj (by omega)] at a;cases a
  ·have i:=xn k;have d:=tN t n j t[zV t n] (by rw[i];exact ry);rw[i,zx] at a;rcases a with rfl|a
   ·exact f g
   ·have c:yC (QA (t.drop (zV t n))):=by
     unfold yC QA at *;rw[List.map_drop];exact j.sublist (List.drop_sublist _ _)
    rw[i] at c;have b:yC (t[zV t n].name::QA (t.drop (zV t n+1))):=c;unfold yC at b;rw[nZ] at b;have:=b.1 e.name (z7.2 ⟨e,a,rfl⟩);rw[g,d] at this;cases this
theorem r8{x e:zh}{k:Nat}:e∈vg t x k↔e=x∨e∈t:=by
 unfold vg;rw[zI,zx];constructor
 ·rintro(h|h|h)
  ·exact zb (fV h)
  ·exact zf h
  ·exact zb (dQ h)
 ·rintro(h|h)
  ·exact zb (zf h)
  ·rw[←jt k t,zI] at h;rcases h with h|h
   ·exact zf h
   ·exact zb (zb h)
theorem Hm{x:zh}(i:yC (QA t))(k:∀e∈t,e.name≠x.name):yC (QA (vg t x (zV t x.name))):=by
 have m:=wQ t x.name;have l:=tN t x.name i;have g:∀e∈t.drop (zV t x.name),Ra x.name e.name=true:=by
  intro e d;cases j:Ra x.name e.name with
  |true=>rfl
  |false=>exact zC (t9 (l e d) j) (k e (dQ d))
 have c:=i;rw[←jt (zV t x.name) t] at c;unfold yC QA at c ⊢;unfold vg;rw[uP,py] at c;rw[uP,xH,py,nZ];refine⟨c.1,⟨?_,c.2.1⟩,?_⟩
 ·intro b f;obtain⟨e,d,rfl⟩:=z7.1 f;exact g e d
 ·intro a h b f;obtain⟨e,d,rfl⟩:=z7.1 h;rcases zx.1 f with rfl|f
  ·exact m e d
  ·exact c.2.2 _ h b f
structure RK (t:List zh) (ls:List zj):Prop where
 rise:yC (QA t)
 names:∀n,n∈QA t↔∃l∈ls,l.pred=n
 jh:∀e∈t,∀l∈ls,l.pred=e.name->l.args.length=e.jh
theorem RK.step{v:List zh}{s:List zj}{l:zj}(h:RK t s)(i:vE t l=some v):RK v (s++[l]):=by
 unfold vE at i;split at i
 ·rename_i e r;obtain⟨c,p⟩:=nA r;split at i
  ·rename_i q;simp only[zt] at i;subst i;refine⟨h.rise,fun n=>?_,fun o g d a b=>?_⟩
   ·rw[h.names];constructor
    ·rintro⟨d,a,b⟩;exact⟨d,by simp[a],b⟩
    ·rintro⟨d,a,b⟩;rcases zI.1 a with a|a
     ·exact⟨d,a,b⟩
     ·simp at a;subst a;exact(h.names n).1 (z7.2 ⟨e,c,by rw[p,b]⟩)
   ·rcases zI.1 a with a|a
    ·exact h.jh o g d a b
    ·simp at a;subst a;obtain⟨u,m,k⟩:=(h.names e.name).1 (z7.2 ⟨e,c,rfl⟩);rw[←q,←h.jh e c u m k];exact h.jh o g u m (by rw[k,p,b])
  ·cases i
 ·rename_i r;simp only[zt] at i;subst i;have f:=nY h.rise r;refine⟨Hm h.rise f,fun n=>?_,fun o g d a b=>?_⟩
  ·constructor
   ·intro p;obtain⟨e,c,rfl⟩:=z7.1 p;rcases r8.1 c with rfl|c
    ·exact⟨l,by simp,rfl⟩
    ·obtain⟨d,a,b⟩:=(h.names e.name).1 (z7.2 ⟨e,c,rfl⟩);exact⟨d,by simp[a],b⟩
   ·rintro⟨d,a,b⟩;rcases zI.1 a with a|a
    ·obtain⟨e,c,j⟩:=z7.1 ((h.names n).2 ⟨d,a,b⟩);exact z7.2 ⟨e,r8.2 (zb c),j⟩
    ·simp at a;subst a;exact z7.2 ⟨_,r8.2 (zf rfl),b⟩
  ·rcases r8.1 g with rfl|c
   ·rcases zI.1 a with a|a
    ·obtain⟨e,c,j⟩:=z7.1 ((h.names d.pred).2 ⟨d,a,rfl⟩);exact zC (j.trans b) (f e c)
    ·simp at a;subst a;rfl
   ·rcases zI.1 a with a|a
    ·exact h.jh o c d a b
    ·simp at a;subst a;exact zC b.symm (f o c)
theorem Bu:∀(b done:List zj) (t a:List zh),RK t done->b.foldl um (some t)=some a->RK a (done++b)
 |[],done,t,a,h,e=>by simp at e;subst e;simpa using h
 |l::b,done,t,a,h,e=>by
  rw[ut] at e;cases c:vE t l with
  |none=>rw[show um (some t) l=none from c,pc] at e;cases e
  |some d=>
   rw[show um (some t) l=some d from c] at e;have:=Bu b (done++[l]) d a (h.step c) e;rwa [ky] at this
theorem tz:RK [] []:=⟨List.Pairwise.nil,fun n=>by simp[QA],fun e a=>by cases a⟩
theorem AZ{cs:List zd}(h:ui cs=some t):RK t (cs.flatMap zk):=by
 have:=Bu (cs.flatMap zk) [] [] t tz h;simpa using this
end
section
variable {cs:List zd}{f:ByteArray->Nat}
def up(l:zj):Nat:=if l.neg then 1 else 0
def R7(cs:List zd)(f:ByteArray->Nat):Prop:=∀c∈cs,∀l∈c.body,f l.pred+up l<=f c.head.pred
def Rp(cs:List zd)(f:ByteArray->Nat):Prop:=R7 cs f/\∀g,R7 cs g->∀n,f n<=g n
theorem Ef{g:ByteArray->Nat}(t:R7 cs g):∃f,Rp cs f:=by
 have a:∀n,∃k,(∃h,R7 cs h/\h n=k)/\∀h,R7 cs h->k<=h n:=by
  intro n;have j:∀m,(∃h,R7 cs h/\h n<=m)->∃k,(∃h,R7 cs h/\h n=k)/\∀h,R7 cs h->k<=h n:=by
   intro m;induction m with
   |zero=>rintro⟨h,b,r⟩;exact⟨0,⟨h,b,by omega⟩,fun _ _=>zv _⟩
   |succ m u=>
    intro q;by_cases p:∃h,R7 cs h/\h n<=m
    ·exact u p
    ·obtain⟨h,b,r⟩:=q;have d:∀e,R7 cs e->m+1<=e n:=fun e i=>by
      false_or_by_contra;rename_i o;exact p ⟨e,i,by omega⟩
     exact⟨m+1,⟨h,b,by have:=d h b;omega⟩,d⟩
  exact j (g n) ⟨g,t,zg _⟩
 refine⟨fun n=>(a n).choose,fun c o l s=>?_,fun h b n=>(a n).choose_spec.2 h b⟩;obtain⟨⟨h,b,v⟩,-⟩:=(a c.head.pred).choose_spec;have x:=(a l.pred).choose_spec.2 h b;have w:=b c o l s;simp only;omega
theorem S2:∀(N:Nat) (L:List Nat),(∀k,k<=N->k∈L)->N+1<=L.length
 |0,L,h=>by
  have:=h 0 (zg _);cases L with
  |nil=>cases this
  |cons=>simp
 |N+1,L,h=>by
  have a:=h (N+1) (zg _);have:=S2 N (L.erase (N+1)) fun k b=>(ld (by omega)).2 (h k (by omega));rw[lN a] at this;have:0<L.length:=mB a;omega
theorem i6(h:Rp cs f){ps:κ}(d:∀c∈cs,∀l∈zk c,l.pred∈ps){n:ByteArray}(u:n∈ps):f n<ps.length:=by
 false_or_by_contra
 rename_i q;have v:∃k,k<=ps.length/\k∉ps.map f:=by
  apply Classical.byContradiction;intro i;have:=S2 ps.length (ps.map f) fun k p=>Classical.byContradiction fun b=>i ⟨k,p,b⟩;rw[uu] at this;omega
 obtain⟨k,p,g⟩:=v;have a:∀m∈ps,f m≠k:=fun m t e=>g (z7.2 ⟨m,t,e⟩);have s:R7 cs fun m=>if k<f m then f m-1 else f m:=by
  intro c j l o;have z:=h.1 c j l o;have y:=a l.pred (d c j l (by simp[zk,o]));have w:up l<=1:=by unfold up;split<;>omega
  simp only;split<;>split<;>omega
 have r:=h.2 _ s n;have x:=a n u;split at r<;>omega
theorem JS{a b:ByteArray->Nat}(h:Rp cs f)(g:∀n,a n<=b n)(d:∀n,b n<=f n)(i:∀c∈cs,∀l∈c.body,a l.pred+up l<=b c.head.pred)
  (j:∀n,b n=f n->a n=f n):∀n,a n=f n:=by
 apply Classical.byContradiction;intro r;have ⟨n,v⟩:∃n,¬a n=f n:=Classical.byContradiction fun u=>r fun n=>Classical.byContradiction fun p=>u ⟨n,p⟩;have t:R7 cs fun m=>if a m=f m then f m else f m-1:=by
  intro c p l s;have y:=h.1 c p l s;have A:=i c p l s;have D:=g c.head.pred;have C:=d c.head.pred;have q:=j c.head.pred;have x:=g l.pred;have w:=d l.pred;have B:up l<=1:=by unfold up;split<;>omega
  simp only;by_cases o:a l.pred=f l.pred
  ·by_cases k:a c.head.pred=f c.head.pred
   ·rw[zc o,zc k];exact y
   ·have z:¬b c.head.pred=f c.head.pred:=fun e=>k (q e);rw[zc o,za k];omega
  ·by_cases k:a c.head.pred=f c.head.pred
   ·rw[za o,zc k];omega
   ·rw[za o,za k];omega
 have q:=h.2 _ t n;simp only[v,if_false] at q;have x:=g n;have w:=d n;omega
end
section
variable {t:List zh}
def val(t:List zh)(n:ByteArray):Nat:=match yo t n with
 |some e=>e.qh
 |none=>0
theorem oe:∀{t c:List zh},QA t=QA c->∀n,zV t n=zV c n
 |[],[],_,_=>rfl
 |[],_::_,h,_=>by simp[QA] at h
 |_::_,[],h,_=>by simp[QA] at h
 |a::r,b::q,h,n=>by
  simp only[QA,xH,mp] at h;unfold zV;rw[h.1,oe h.2 n]
theorem Au{k:Nat}{e:zh}(b:k<t.length)(a:e.name=t[k].name):QA (t.set k e)=QA t:=by
 unfold QA;rw[fu,a];apply kX (by simp);intro i c d;rw[lO];split
 ·rename_i h;subst h;simp
 ·rfl
theorem K8(t:List zh)(n:ByteArray)(s:Nat):QA (x6 t n s).1=QA t:=by
 unfold x6;split
 ·rfl
 ·rename_i e c;obtain⟨a,b,d⟩:=jV c;split
  ·rfl
  ·exact Au a (by rw[b])
theorem LH{n:ByteArray}{e:zh}(s:Nat)(h:yo t n=some e)(m:ByteArray):yo (t.set (zV t n) {e with qh:=s}) m=if m=n then some {e with qh:=s} else yo t m:=by
 obtain⟨a,f,d⟩:=jV h;have g:zV (t.set (zV t n) {e with qh:=s}) m=zV t m:=oe (Au a (by rw[f])) m;unfold yo;rw[g,ro];by_cases c:m=n
 ·subst c;rw[zc rfl,zc rfl,zc a];simp[d]
 ·rw[za c];by_cases b:zV t n=zV t m
  ·rw[zc b,zc a,←b,yp a,f];simp[d,Ne.symm c]
  ·rw[za b]
theorem AJ(t:List zh)(n:ByteArray)(s:Nat)(m:ByteArray):val (x6 t n s).1 m=if m=n/\(yo t n).isSome=true then max (val t n) s else val t m:=by
 unfold x6;cases b:yo t n with
 |none=>simp
 |some e=>
  simp only[kc,and_true];have c:val t n=e.qh:=by simp[val,b]
  split
  ·split
   ·rename_i f d;rw[d,c];omega
   ·rfl
  ·rename_i f;unfold val;rw[LH s b m,b];by_cases a:m=n
   ·rw[zc a,zc a];simp only;omega
   ·rw[za a,za a]
theorem Jh(t:List zh)(n:ByteArray)(s:Nat):((x6 t n s).2=false->(x6 t n s).1=t)/\((x6 t n s).2=true->val t n<val (x6 t n s).1 n):=by
 constructor
 ·unfold x6;split
  ·exact fun _=>rfl
  ·split
   ·exact fun _=>rfl
   ·intro h;cases h
 ·intro h;rw[AJ];unfold x6 at h;split at h
  ·cases h
  ·rename_i e a;split at h
   ·cases h
   ·rename_i c;have b:val t n=e.qh:=by simp[val,a]
    rw[zc ⟨rfl,by simp[a]⟩];omega
theorem At{t:List zh}:∀(b:List zj) (n:Nat),n<=b.foldl (qG t) n/\∀l∈b,jY t l<=b.foldl (qG t) n
 |[],n=>⟨zg _,fun l c=>by cases c⟩
 |a::b,n=>by
  have ⟨f,d⟩:=At (t:=t) b (qG t n a);have e:n<=qG t n a/\jY t a<=qG t n a:=by unfold qG;split<;>omega
  rw[ut];refine⟨by omega,fun l c=>?_⟩;rcases zx.1 c with rfl|c
  ·omega
  ·exact d l c
theorem Fb{t:List zh}{M:Nat}:∀(b:List zj) (n:Nat),n<=M->(∀l∈b,jY t l<=M)->b.foldl (qG t) n<=M
 |[],n,h,_=>h
 |a::b,n,h,c=>by
  rw[ut];refine Fb b _ ?_ fun l d=>c l (by simp[d]);have:=c a (by simp);unfold qG;split<;>omega
theorem I5{l:zj}(h:(yo t l.pred).isSome=true):jY t l=val t l.pred+up l:=by
 unfold jY val up;cases a:yo t l.pred with
 |none=>rw[a] at h;cases h
 |some e=>simp only;split<;>rfl
end
section
variable {t t':List zh}
theorem De(t:List zh)(n:ByteArray):(yo t n).isSome=true↔(QA t)[zV t n]?=some n:=by
 unfold yo QA;rw[lK];cases h:t[zV t n]? with
 |none=>simp
 |some e=>
  simp only[jA,zt];split<;>simp[*]
theorem AG(h:QA t=QA t')(n:ByteArray):(yo t n).isSome=true↔(yo t' n).isSome=true:=by
 rw[De,De,h,oe h n]
def km(t:List zh)(cs:List zd):Prop:=∀c∈cs,∀l∈zk c,(yo t l.pred).isSome=true
theorem km.names{cs:List zd}(h:km t cs)(a:QA t=QA t'):km t' cs:=fun c d l b=>(AG a _).1 (h c d l b)
structure CC (x y:List zh×Bool) (ds:List zd):Prop where
 names:QA y.1=QA x.1
 grow:∀n,val x.1 n<=val y.1 n
 step:∀c∈ds,∀l∈c.body,val x.1 l.pred+up l<=val y.1 c.head.pred
 low:∀f,R7 ds f->(∀n,val x.1 n<=f n)->∀n,val y.1 n<=f n
 still:y.2=false->y.1=x.1/\x.2=false
 moved:y.2=true->x.2=true∨∃n,val x.1 n<val y.1 n
theorem G5{x:List zh×Bool}{c:zd}(h:km x.1 [c]):CC x (vU x c) [c]:=by
 have r:=h c (by simp) c.head (by simp[zk]);have i:∀l∈c.body,jY x.1 l=val x.1 l.pred+up l:=fun l i=>I5 (h c (by simp) l (by simp[zk,i]));have j:=fun m=>AJ x.1 c.head.pred (qQ x.1 c) m;have p:=Jh x.1 c.head.pred (qQ x.1 c);refine⟨K8 _ _ _,fun n=>?_,fun s g l b=>?_,fun f q a n=>?_,fun k=>?_,fun o=>?_⟩
 ·show _<=val (x6 _ _ _).1 n;rw[j];split
  ·rename_i e;rw[e.1];omega
  ·omega
 ·simp at g;subst g;show _<=val (x6 _ _ _).1 _;rw[j,zc ⟨rfl,r⟩,←i l b];have:=(At (t:=x.1) s.body 0).2 l b;unfold qQ;omega
 ·show val (x6 _ _ _).1 n<=_;rw[j];split
  ·rename_i e;rw[e.1];have u:=a c.head.pred;have d:qQ x.1 c<=f c.head.pred:=by
    unfold qQ;refine Fb c.body 0 (zv _) fun l b=>?_;have:=q c (by simp) l b;have:=a l.pred;rw[i l b];omega
   omega
  ·exact a n
 ·have d:(x.2||(x6 x.1 c.head.pred (qQ x.1 c)).2)=false:=k;rw[nK] at d;exact⟨p.1 d.2,d.1⟩
 ·have d:(x.2||(x6 x.1 c.head.pred (qQ x.1 c)).2)=true:=o;rw[dX] at d;rcases d with d|d
  ·exact zf d
  ·exact zb ⟨_,p.2 d⟩
theorem rM:∀(k:List zd) (x:List zh×Bool),km x.1 k->CC x (k.foldl vU x) k
 |[],x,_=>⟨rfl,fun _=>zg _,fun c r=>by(cases r),fun _ _ h=>h,fun h=>⟨rfl,h⟩,fun h=>zf h⟩
 |c::k,x,h=>by
  have d:=G5 (x:=x) (c:=c) fun b a=>by simp at a;subst a;exact h b (by simp)
  have e:=rM k (vU x c) (km.names (fun b a=>h b (by simp[a])) d.names.symm);rw[ut];refine⟨e.names.trans d.names,fun n=>yc (d.grow n) (e.grow n),fun b a l q=>?_,fun f p j=>?_,fun m=>?_,fun o=>?_⟩
  ·rcases zx.1 a with rfl|a
   ·exact yc (d.step b (by simp) l q) (e.grow _)
   ·have:=e.step b a l q;have:=d.grow l.pred;omega
  ·exact e.low f (fun b a=>p b (by simp[a])) (d.low f (fun b a=>by simp at a;subst a;exact p b (by simp)) j)
  ·have g:=e.still m;have i:=d.still g.2;exact⟨g.1.trans i.1,i.2⟩
  ·rcases e.moved o with g|⟨n,g⟩
   ·rcases d.moved g with i|⟨n,i⟩
    ·exact zf i
    ·exact zb ⟨n,xP i (e.grow n)⟩
   ·exact zb ⟨n,Nat.lt_of_le_of_lt (d.grow n) g⟩
theorem io{n:ByteArray}(h:n∉QA t):val t n=0:=by
 unfold val;split
 ·rename_i e c;obtain⟨a,b⟩:=nA c;exact zC (z7.2 ⟨e,a,b⟩) h
 ·rfl
def rest(f:ByteArray->Nat)(t:List zh):Nat:=((QA t).filter fun n=>decide (val t n≠f n)).length
theorem MQ{f:ByteArray->Nat}(k:QA t'=QA t)(b:∀n,val t n=f n->val t' n=f n){m:ByteArray}(d:m∈QA t)(p:val t m≠f m)(o:val t' m=f m):rest f t'<rest f t:=by
 unfold rest;rw[k];generalize QA t=h at d;have j:∀l:κ,(l.filter fun n=>decide (val t' n≠f n)).length<=(l.filter fun n=>decide (val t n≠f n)).length:=by
  intro l;induction l with
  |nil=>simp
  |cons a l g=>
   by_cases c:val t a=f a
   ·simp[c,b a c];simpa using g
   ·by_cases e:val t' a=f a
    ·simp[c,e];have:=g;simp at this;omega
    ·simp[c,e];simpa using g
 induction h with
 |nil=>cases d
 |cons a h g=>
  have i:=j h;rcases zx.1 d with rfl|d
  ·simp[p,o];simp at i;omega
  ·have:=g d;by_cases c:val t a=f a
   ·simp[c,b a c];simpa using this
   ·by_cases e:val t' a=f a
    ·simp[c,e];simp at this;omega
    ·simp[c,e];simpa using this
theorem wD:∀(m:Nat) (t:List zh) (cs:List zd),km t cs->QA (xJ m t cs).1=QA t
 |0,_,_,_=>rfl
 |m+1,t,cs,h=>by
  have p:=rM cs (t,false) h;unfold xJ;split
  ·exact(wD m _ cs (h.names p.names.symm)).trans p.names
  ·exact p.names
theorem BE{f:ByteArray->Nat}:∀(m:Nat) (t:List zh) (cs:List zd),km t cs->R7 cs f->(∀n,val t n<=f n)->∀n,val (xJ m t cs).1 n<=f n
 |0,_,_,_,_,h=>h
 |m+1,t,cs,h,b,a=>by
  have p:=rM cs (t,false) h;have:=p.low f b a;unfold xJ;split
  ·exact BE m _ cs (h.names p.names.symm) b this
  ·exact this
theorem tA:∀(m:Nat) (t:List zh) (cs:List zd),km t cs->(xJ m t cs).2=true->R7 cs (val (xJ m t cs).1)
 |0,_,_,_,h=>by cases h
 |m+1,t,cs,h,b=>by
  have p:=rM cs (t,false) h;unfold xJ at b ⊢;split at b
  ·rename_i a;rw[zc a];exact tA m _ cs (h.names p.names.symm) b
  ·rename_i a;rw[za a];have g:=(p.still (by simpa [vS] using a)).1;intro c d l f;have e:=p.step c d l f;show val (cs.foldl vU (t,false)).1 l.pred+up l<=val (cs.foldl vU (t,false)).1 c.head.pred;rw[g] at e ⊢;exact e
theorem Br{f:ByteArray->Nat}{cs:List zd}(j:Rp cs f):∀(m:Nat) (t:List zh),km t cs->(∀n,val t n<=f n)->rest f t<m->(xJ m t cs).2=true
 |0,_,_,_,h=>by omega
 |m+1,t,h,c,v=>by
  have p:=rM cs (t,false) h;have a:=p.low f j.1 c;unfold xJ;split
  ·rename_i g;refine Br j m _ (h.names p.names.symm) a ?_;have l:¬∀n,val t n=f n:=by
    intro b;rcases p.moved g with d|⟨n,d⟩
    ·cases d
    ·have:=a n;have:=b n;simp only at d;omega
   have ⟨n,o,i⟩:∃n,val (cs.foldl vU (t,false)).1 n=f n/\val t n≠f n:=by
    apply Classical.byContradiction;intro e;exact l (JS j p.grow a p.step fun n r=>Classical.byContradiction fun g=>e ⟨n,r,g⟩)
   have q:n∈QA t:=by
    apply Classical.byContradiction;intro e;have d:=io e;have u:val (cs.foldl vU (t,false)).1 n=0:=io (by rw[p.names];exact e);omega
   have:=MQ (f:=f) (t:=t) p.names (fun k s=>Nat.le_antisymm (a k) (by rw[←s];exact p.grow k)) q i o;show rest f (cs.foldl vU (t,false)).1<m;omega
  ·rfl
theorem sQ{cs:List zd}(h:km t cs)(b:∀n,val t n=0):((xJ (t.length+1) t cs).2=true↔∃f,R7 cs f)/\((xJ (t.length+1) t cs).2=true->Rp cs (val (xJ (t.length+1) t cs).1)):=by
 refine⟨⟨fun e=>⟨_,tA _ t cs h e⟩,?_⟩,fun e=>⟨tA _ t cs h e,fun g a=>BE _ t cs h a fun n=>by rw[b];omega⟩⟩;rintro⟨g,a⟩;obtain⟨f,c⟩:=Ef a;refine Br c _ t h (fun n=>by rw[b];omega) ?_;have:=pf (fun n=>decide (val t n≠f n)) (QA t);have d:(QA t).length=t.length:=by simp[QA]
 unfold rest;omega
end
end Go.Proofs.YteampbddflhngaaGreat
