import Derived.Test.YteampbddflhngaaGreatX15
import Derived.Test.YteampbddflhngaaGreatX16
namespace Go.Proofs.YteampbddflhngaaGreat
set_option linter.all false
section
variable {t:List zh}
def P2(t:List zh):List ByteArray:=t.map zh.name
theorem s5:∀(t:List zh) (n:ByteArray),∀e∈t.take (zV t n),PS e.name n=true
 |[],_,e,h=>by simp at h
 |a::r,n,e,h=>by
  unfold zV at h;cases b:PS a.name n with
  |false=>simp[b] at h
  |true=>
   simp only[b,if_true,nt,zu] at h;rcases h with rfl|h
   ·exact b
   ·exact s5 r n e h
theorem tL:∀(t:List zh) (n:ByteArray),y5 (P2 t)->∀e∈t.drop (zV t n),PS e.name n=false
 |[],_,_,e,h=>by simp at h
 |a::r,n,f,e,h=>by
  have b:y5 (a.name::P2 r):=f;unfold y5 at b;rw[nN] at b;unfold zV at h;cases c:PS a.name n with
  |true=>
   simp only[c,if_true,lx] at h;exact tL r n b.2 e h
  |false=>
   simp only[c,gx,if_false,gW,zu] at h;rcases h with rfl|h
   ·exact c
   ·cases d:PS e.name n with
    |false=>rfl
    |true=>
     have:=lt_trans (b.1 e.name (z9.2 ⟨e,h,rfl⟩)) d;rw[c] at this;cases this
theorem nm{n:ByteArray}{e:zh}(h:yn t n=some e):e∈t/\e.name=n:=by
 obtain⟨b,c,a⟩:=jJ h;exact⟨by rw[←c];exact zv b,a⟩
theorem mN{n:ByteArray}(j:y5 (P2 t))(h:yn t n=none):∀e∈t,e.name≠n:=by
 intro e a d;rw[←qU (zV t n) t,zX] at a;rcases a with a|a
 ·have:=s5 t n e a;rw[d,PE] at this;cases this
 ·rcases rJ h with k|⟨k,i⟩
  ·rw[ug (by omega)] at a;cases a
  ·have g:=xk k;have f:=tL t n j t[zV t n] (by rw[g];exact pN);rw[g,zu] at a;rcases a with rfl|a
   ·exact i d
   ·have c:y5 (P2 (t.drop (zV t n))):=by
     unfold y5 P2 at *;rw[List.map_drop];exact j.sublist (List.drop_sublist _ _)
    rw[g] at c;have b:y5 (t[zV t n].name::P2 (t.drop (zV t n+1))):=c;unfold y5 at b;rw[nN] at b;have:=b.1 e.name (z9.2 ⟨e,a,rfl⟩);rw[d,f] at this;cases this
theorem rn{x e:zh}{k:Nat}:e∈uO t x k↔e=x∨e∈t:=by
 unfold uO;rw[zX,zu];constructor
 ·rintro(h|h|h)
  ·exact ze (fU h)
  ·exact zg h
  ·exact ze (gZ h)
 ·rintro(h|h)
  ·exact ze (zg h)
  ·rw[←qU k t,zX] at h;rcases h with h|h
   ·exact zg h
   ·exact ze (ze h)
theorem NG{x:zh}(h:y5 (P2 t))(k:∀e∈t,e.name≠x.name):y5 (P2 (uO t x (zV t x.name))):=by
 have l:=s5 t x.name;have j:=tL t x.name h;have g:∀e∈t.drop (zV t x.name),PS x.name e.name=true:=by
  intro e d;cases m:PS x.name e.name with
  |true=>rfl
  |false=>exact zB (r8 (j e d) m) (k e (gZ d))
 have c:=h;rw[←qU (zV t x.name) t] at c;unfold y5 P2 at c ⊢;unfold uO;rw[vC,po] at c;rw[vC,xQ,po,nN];refine⟨c.1,⟨?_,c.2.1⟩,?_⟩
 ·intro b f;obtain⟨e,d,rfl⟩:=z9.1 f;exact g e d
 ·intro a i b f;obtain⟨e,d,rfl⟩:=z9.1 i;rcases zu.1 f with rfl|f
  ·exact l e d
  ·exact c.2.2 _ i b f
structure Q8 (t:List zh) (ls:List zj):Prop where
 rise:y5 (P2 t)
 names:∀n,n∈P2 t↔∃l∈ls,l.pred=n
 jh:∀e∈t,∀l∈ls,l.pred=e.name->l.args.length=e.jh
theorem Q8.step{u:List zh}{v:List zj}{l:zj}(h:Q8 t v)(i:vh t l=some u):Q8 u (v++[l]):=by
 unfold vh at i;split at i
 ·rename_i e r;obtain⟨c,p⟩:=nm r;split at i
  ·rename_i q;simp only[zr] at i;subst i;refine⟨h.rise,fun n=>?_,fun o g d a b=>?_⟩
   ·rw[h.names];constructor
    ·rintro⟨d,a,b⟩;exact⟨d,by simp[a],b⟩
    ·rintro⟨d,a,b⟩;rcases zX.1 a with a|a
     ·exact⟨d,a,b⟩
     ·simp at a;subst a;exact(h.names n).1 (z9.2 ⟨e,c,by rw[p,b]⟩)
   ·rcases zX.1 a with a|a
    ·exact h.jh o g d a b
    ·simp at a;subst a;obtain⟨s,m,k⟩:=(h.names e.name).1 (z9.2 ⟨e,c,rfl⟩);rw[←q,←h.jh e c s m k];exact h.jh o g s m (by rw[k,p,b])
  ·cases i
 ·rename_i r;simp only[zr] at i;subst i;have f:=mN h.rise r;refine⟨NG h.rise f,fun n=>?_,fun o g d a b=>?_⟩
  ·constructor
   ·intro p;obtain⟨e,c,rfl⟩:=z9.1 p;rcases rn.1 c with rfl|c
    ·exact⟨l,by simp,rfl⟩
    ·obtain⟨d,a,b⟩:=(h.names e.name).1 (z9.2 ⟨e,c,rfl⟩);exact⟨d,by simp[a],b⟩
   ·rintro⟨d,a,b⟩;rcases zX.1 a with a|a
    ·obtain⟨e,c,j⟩:=z9.1 ((h.names n).2 ⟨d,a,b⟩);exact z9.2 ⟨e,rn.2 (ze c),j⟩
    ·simp at a;subst a;exact z9.2 ⟨_,rn.2 (zg rfl),b⟩
  ·rcases rn.1 g with rfl|c
   ·rcases zX.1 a with a|a
    ·obtain⟨e,c,j⟩:=z9.1 ((h.names d.pred).2 ⟨d,a,rfl⟩);exact zB (j.trans b) (f e c)
    ·simp at a;subst a;rfl
   ·rcases zX.1 a with a|a
    ·exact h.jh o c d a b
    ·simp at a;subst a;exact zB b.symm (f o c)
theorem Ci:∀(b done:List zj) (t a:List zh),Q8 t done->b.foldl ui (some t)=some a->Q8 a (done++b)
 |[],done,t,a,h,e=>by simp at e;subst e;simpa using h
 |l::b,done,t,a,h,e=>by
  rw[un] at e;cases c:vh t l with
  |none=>rw[show ui (some t) l=none from c,nX] at e;cases e
  |some d=>
   rw[show ui (some t) l=some d from c] at e;have:=Ci b (done++[l]) d a (h.step c) e;rwa [kB] at this
theorem td:Q8 [] []:=⟨List.Pairwise.nil,fun n=>by simp[P2],fun e a=>by cases a⟩
theorem E5{cs:List zc}(h:ud cs=some t):Q8 t (cs.flatMap zl):=by
 have:=Ci (cs.flatMap zl) [] [] t td h;simpa using this
end
section
variable {cs:List zc}{f:ByteArray->Nat}
def up(l:zj):Nat:=if l.neg then 1 else 0
def Qt(cs:List zc)(f:ByteArray->Nat):Prop:=∀c∈cs,∀l∈c.body,f l.pred+up l<=f c.head.pred
def Qe(cs:List zc)(f:ByteArray->Nat):Prop:=Qt cs f/\∀g,Qt cs g->∀n,f n<=g n
theorem AQ{g:ByteArray->Nat}(q:Qt cs g):∃f,Qe cs f:=by
 have a:∀n,∃k,(∃h,Qt cs h/\h n=k)/\∀h,Qt cs h->k<=h n:=by
  intro n;have i:∀m,(∃h,Qt cs h/\h n<=m)->∃k,(∃h,Qt cs h/\h n=k)/\∀h,Qt cs h->k<=h n:=by
   intro m;induction m with
   |zero=>rintro⟨h,b,s⟩;exact⟨0,⟨h,b,by omega⟩,fun _ _=>zx _⟩
   |succ m t=>
    intro r;by_cases o:∃h,Qt cs h/\h n<=m
    ·exact t o
    ·obtain⟨h,b,s⟩:=r;have d:∀e,Qt cs e->m+1<=e n:=fun e j=>by
      false_or_by_contra;rename_i p;exact o ⟨e,j,by omega⟩
     exact⟨m+1,⟨h,b,by have:=d h b;omega⟩,d⟩
  exact i (g n) ⟨g,q,zf _⟩
 refine⟨fun n=>(a n).choose,fun c p l u=>?_,fun h b n=>(a n).choose_spec.2 h b⟩;obtain⟨⟨h,b,w⟩,-⟩:=(a c.head.pred).choose_spec;have x:=(a l.pred).choose_spec.2 h b;have v:=b c p l u;simp only;omega
theorem Rq:∀(N:Nat) (L:List Nat),(∀k,k<=N->k∈L)->N+1<=L.length
 |0,L,h=>by
  have:=h 0 (zf _);cases L with
  |nil=>cases this
  |cons=>simp
 |N+1,L,h=>by
  have a:=h (N+1) (zf _);have:=Rq N (L.erase (N+1)) fun k b=>(mS (by omega)).2 (h k (by omega));rw[nQ a] at this;have:0<L.length:=ny a;omega
theorem eQ(h:Qe cs f){ps:List ByteArray}(b:∀c∈cs,∀l∈zl c,l.pred∈ps){n:ByteArray}(q:n∈ps):f n<ps.length:=by
 false_or_by_contra
 rename_i u;have r:∃k,k<=ps.length/\k∉ps.map f:=by
  apply Classical.byContradiction;intro i;have:=Rq ps.length (ps.map f) fun k o=>Classical.byContradiction fun d=>i ⟨k,o,d⟩;rw[uJ] at this;omega
 obtain⟨k,o,g⟩:=r;have a:∀m∈ps,f m≠k:=fun m t e=>g (z9.2 ⟨m,t,e⟩);have s:Qt cs fun m=>if k<f m then f m-1 else f m:=by
  intro c p l j;have z:=h.1 c p l j;have w:=a l.pred (b c p l (by simp[zl,j]));have x:up l<=1:=by unfold up;split<;>omega
  simp only;split<;>split<;>omega
 have v:=h.2 _ s n;have y:=a n q;split at v<;>omega
theorem Ka{a b:ByteArray->Nat}(h:Qe cs f)(i:∀n,a n<=b n)(j:∀n,b n<=f n)(g:∀c∈cs,∀l∈c.body,a l.pred+up l<=b c.head.pred)
  (d:∀n,b n=f n->a n=f n):∀n,a n=f n:=by
 apply Classical.byContradiction;intro q;have ⟨n,w⟩:∃n,¬a n=f n:=Classical.byContradiction fun t=>q fun n=>Classical.byContradiction fun o=>t ⟨n,o⟩;have y:Qt cs fun m=>if a m=f m then f m else f m-1:=by
  intro c o l s;have x:=h.1 c o l s;have C:=g c o l s;have z:=i c.head.pred;have D:=j c.head.pred;have r:=d c.head.pred;have v:=i l.pred;have u:=j l.pred;have A:up l<=1:=by unfold up;split<;>omega
  simp only;by_cases p:a l.pred=f l.pred
  ·by_cases k:a c.head.pred=f c.head.pred
   ·rw[zb p,zb k];exact x
   ·have B:¬b c.head.pred=f c.head.pred:=fun e=>k (r e);rw[zb p,za k];omega
  ·by_cases k:a c.head.pred=f c.head.pred
   ·rw[za p,zb k];omega
   ·rw[za p,za k];omega
 have r:=h.2 _ y n;simp only[w,if_false] at r;have v:=i n;have u:=j n;omega
end
section
variable {t:List zh}
def val(t:List zh)(n:ByteArray):Nat:=match yn t n with
 |some e=>e.qh
 |none=>0
theorem tV:∀{t c:List zh},P2 t=P2 c->∀n,zV t n=zV c n
 |[],[],_,_=>rfl
 |[],_::_,h,_=>by simp[P2] at h
 |_::_,[],h,_=>by simp[P2] at h
 |a::r,b::q,h,n=>by
  simp only[P2,xQ,ml] at h;unfold zV;rw[h.1,tV h.2 n]
theorem EL{k:Nat}{e:zh}(c:k<t.length)(a:e.name=t[k].name):P2 (t.set k e)=P2 t:=by
 unfold P2;rw[fA,a];apply gS (by simp);intro i d b;rw[mJ];split
 ·rename_i h;subst h;simp
 ·rfl
theorem Fi(t:List zh)(n:ByteArray)(s:Nat):P2 (xz t n s).1=P2 t:=by
 unfold xz;split
 ·rfl
 ·rename_i e a;obtain⟨b,c,d⟩:=jJ a;split
  ·rfl
  ·exact EL b (by rw[c])
theorem J6{n:ByteArray}{e:zh}(s:Nat)(g:yn t n=some e)(m:ByteArray):yn (t.set (zV t n) {e with qh:=s}) m=if m=n then some {e with qh:=s} else yn t m:=by
 obtain⟨a,f,d⟩:=jJ g;have h:zV (t.set (zV t n) {e with qh:=s}) m=zV t m:=tV (EL a (by rw[f])) m;unfold yn;rw[h,p3];by_cases b:m=n
 ·subst b;rw[zb rfl,zb rfl,zb a];simp[d]
 ·rw[za b];by_cases c:zV t n=zV t m
  ·rw[zb c,zb a,←c,yr a,f];simp[d,Ne.symm b]
  ·rw[za c]
theorem EP(t:List zh)(n:ByteArray)(s:Nat)(m:ByteArray):val (xz t n s).1 m=if m=n/\(yn t n).isSome=true then max (val t n) s else val t m:=by
 unfold xz;cases b:yn t n with
 |none=>simp
 |some e=>
  simp only[jG,and_true];have d:val t n=e.qh:=by simp[val,b]
  split
  ·split
   ·rename_i f c;rw[c,d];omega
   ·rfl
  ·rename_i f;unfold val;rw[J6 s b m,b];by_cases a:m=n
   ·rw[zb a,zb a];simp only;omega
   ·rw[za a,za a]
theorem Oz(t:List zh)(n:ByteArray)(s:Nat):((xz t n s).2=false->(xz t n s).1=t)/\((xz t n s).2=true->val t n<val (xz t n s).1 n):=by
 constructor
 ·unfold xz;split
  ·exact fun _=>rfl
  ·split
   ·exact fun _=>rfl
   ·intro h;cases h
 ·intro h;rw[EP];unfold xz at h;split at h
  ·cases h
  ·rename_i e a;split at h
   ·cases h
   ·rename_i c;have b:val t n=e.qh:=by simp[val,a]
    rw[zb ⟨rfl,by simp[a]⟩];omega
theorem AA{t:List zh}:∀(b:List zj) (n:Nat),n<=b.foldl (qb t) n/\∀l∈b,j9 t l<=b.foldl (qb t) n
 |[],n=>⟨zf _,fun l c=>by cases c⟩
 |a::b,n=>by
  have ⟨f,d⟩:=AA (t:=t) b (qb t n a);have e:n<=qb t n a/\j9 t a<=qb t n a:=by unfold qb;split<;>omega
  rw[un];refine⟨by omega,fun l c=>?_⟩;rcases zu.1 c with rfl|c
  ·omega
  ·exact d l c
theorem BV{t:List zh}{M:Nat}:∀(b:List zj) (n:Nat),n<=M->(∀l∈b,j9 t l<=M)->b.foldl (qb t) n<=M
 |[],n,h,_=>h
 |a::b,n,h,c=>by
  rw[un];refine BV b _ ?_ fun l d=>c l (by simp[d]);have:=c a (by simp);unfold qb;split<;>omega
theorem G4{l:zj}(h:(yn t l.pred).isSome=true):j9 t l=val t l.pred+up l:=by
 unfold j9 val up;cases a:yn t l.pred with
 |none=>rw[a] at h;cases h
 |some e=>simp only;split<;>rfl
end
section
variable {t t':List zh}
theorem Df(t:List zh)(n:ByteArray):(yn t n).isSome=true↔(P2 t)[zV t n]?=some n:=by
 unfold yn P2;rw[li];cases h:t[zV t n]? with
 |none=>simp
 |some e=>
  simp only[jj,zr];split<;>simp[*]
theorem CD(h:P2 t=P2 t')(n:ByteArray):(yn t n).isSome=true↔(yn t' n).isSome=true:=by
 rw[Df,Df,h,tV h n]
def kc(t:List zh)(cs:List zc):Prop:=∀c∈cs,∀l∈zl c,(yn t l.pred).isSome=true
theorem kc.names{cs:List zc}(h:kc t cs)(a:P2 t=P2 t'):kc t' cs:=fun c d l b=>(CD a _).1 (h c d l b)
structure Cz (x y:List zh×Bool) (ds:List zc):Prop where
 names:P2 y.1=P2 x.1
 grow:∀n,val x.1 n<=val y.1 n
 step:∀c∈ds,∀l∈c.body,val x.1 l.pred+up l<=val y.1 c.head.pred
 low:∀f,Qt ds f->(∀n,val x.1 n<=f n)->∀n,val y.1 n<=f n
 still:y.2=false->y.1=x.1/\x.2=false
 moved:y.2=true->x.2=true∨∃n,val x.1 n<val y.1 n
theorem FS{x:List zh×Bool}{c:zc}(h:kc x.1 [c]):Cz x (vD x c) [c]:=by
 have q:=h c (by simp) c.head (by simp[zl]);have i:∀l∈c.body,j9 x.1 l=val x.1 l.pred+up l:=fun l i=>G4 (h c (by simp) l (by simp[zl,i]));have k:=fun m=>EP x.1 c.head.pred (qA x.1 c) m;have p:=Oz x.1 c.head.pred (qA x.1 c);refine⟨Fi _ _ _,fun n=>?_,fun r g l b=>?_,fun f s d n=>?_,fun j=>?_,fun o=>?_⟩
 ·show _<=val (xz _ _ _).1 n;rw[k];split
  ·rename_i e;rw[e.1];omega
  ·omega
 ·simp at g;subst g;show _<=val (xz _ _ _).1 _;rw[k,zb ⟨rfl,q⟩,←i l b];have:=(AA (t:=x.1) r.body 0).2 l b;unfold qA;omega
 ·show val (xz _ _ _).1 n<=_;rw[k];split
  ·rename_i e;rw[e.1];have u:=d c.head.pred;have a:qA x.1 c<=f c.head.pred:=by
    unfold qA;refine BV c.body 0 (zx _) fun l b=>?_;have:=s c (by simp) l b;have:=d l.pred;rw[i l b];omega
   omega
  ·exact d n
 ·have a:(x.2||(xz x.1 c.head.pred (qA x.1 c)).2)=false:=j;rw[np] at a;exact⟨p.1 a.2,a.1⟩
 ·have a:(x.2||(xz x.1 c.head.pred (qA x.1 c)).2)=true:=o;rw[dX] at a;rcases a with a|a
  ·exact zg a
  ·exact ze ⟨_,p.2 a⟩
theorem pT:∀(j:List zc) (x:List zh×Bool),kc x.1 j->Cz x (j.foldl vD x) j
 |[],x,_=>⟨rfl,fun _=>zf _,fun c r=>by(cases r),fun _ _ h=>h,fun h=>⟨rfl,h⟩,fun h=>zg h⟩
 |c::j,x,h=>by
  have d:=FS (x:=x) (c:=c) fun b a=>by simp at a;subst a;exact h b (by simp)
  have e:=pT j (vD x c) (kc.names (fun b a=>h b (by simp[a])) d.names.symm);rw[un];refine⟨e.names.trans d.names,fun n=>zT (d.grow n) (e.grow n),fun b a l p=>?_,fun f q k=>?_,fun m=>?_,fun o=>?_⟩
  ·rcases zu.1 a with rfl|a
   ·exact zT (d.step b (by simp) l p) (e.grow _)
   ·have:=e.step b a l p;have:=d.grow l.pred;omega
  ·exact e.low f (fun b a=>q b (by simp[a])) (d.low f (fun b a=>by simp at a;subst a;exact q b (by simp)) k)
  ·have g:=e.still m;have i:=d.still g.2;exact⟨g.1.trans i.1,i.2⟩
  ·rcases e.moved o with g|⟨n,g⟩
   ·rcases d.moved g with i|⟨n,i⟩
    ·exact zg i
    ·exact ze ⟨n,xG i (e.grow n)⟩
   ·exact ze ⟨n,Nat.lt_of_le_of_lt (d.grow n) g⟩
theorem wK{n:ByteArray}(h:n∉P2 t):val t n=0:=by
 unfold val;split
 ·rename_i e c;obtain⟨b,a⟩:=nm c;exact zB (z9.2 ⟨e,b,a⟩) h
 ·rfl
def rest(f:ByteArray->Nat)(t:List zh):Nat:=((P2 t).filter fun n=>decide (val t n≠f n)).length
theorem Ia{f:ByteArray->Nat}(o:P2 t'=P2 t)(b:∀n,val t n=f n->val t' n=f n){m:ByteArray}(d:m∈P2 t)(p:val t m≠f m)(k:val t' m=f m):rest f t'<rest f t:=by
 unfold rest;rw[o];generalize P2 t=j at d;have h:∀l:List ByteArray,(l.filter fun n=>decide (val t' n≠f n)).length<=(l.filter fun n=>decide (val t n≠f n)).length:=by
  intro l;induction l with
  |nil=>simp
  |cons a l g=>
   by_cases c:val t a=f a
   ·simp[c,b a c];simpa using g
   ·by_cases e:val t' a=f a
    ·simp[c,e];have:=g;simp at this;omega
    ·simp[c,e];simpa using g
 induction j with
 |nil=>cases d
 |cons a j g=>
  have i:=h j;rcases zu.1 d with rfl|d
  ·simp[p,k];simp at i;omega
  ·have:=g d;by_cases c:val t a=f a
   ·simp[c,b a c];simpa using this
   ·by_cases e:val t' a=f a
    ·simp[c,e];simp at this;omega
    ·simp[c,e];simpa using this
theorem rM:∀(m:Nat) (t:List zh) (cs:List zc),kc t cs->P2 (xF m t cs).1=P2 t
 |0,_,_,_=>rfl
 |m+1,t,cs,h=>by
  have p:=pT cs (t,false) h;unfold xF;split
  ·exact(rM m _ cs (h.names p.names.symm)).trans p.names
  ·exact p.names
theorem BM{f:ByteArray->Nat}:∀(m:Nat) (t:List zh) (cs:List zc),kc t cs->Qt cs f->(∀n,val t n<=f n)->∀n,val (xF m t cs).1 n<=f n
 |0,_,_,_,_,h=>h
 |m+1,t,cs,h,b,a=>by
  have p:=pT cs (t,false) h;have:=p.low f b a;unfold xF;split
  ·exact BM m _ cs (h.names p.names.symm) b this
  ·exact this
theorem rX:∀(m:Nat) (t:List zh) (cs:List zc),kc t cs->(xF m t cs).2=true->Qt cs (val (xF m t cs).1)
 |0,_,_,_,h=>by cases h
 |m+1,t,cs,h,d=>by
  have p:=pT cs (t,false) h;unfold xF at d ⊢;split at d
  ·rename_i a;rw[zb a];exact rX m _ cs (h.names p.names.symm) d
  ·rename_i a;rw[za a];have f:=(p.still (by simpa [vw] using a)).1;intro c b l g;have e:=p.step c b l g;show val (cs.foldl vD (t,false)).1 l.pred+up l<=val (cs.foldl vD (t,false)).1 c.head.pred;rw[f] at e ⊢;exact e
theorem DV{f:ByteArray->Nat}{cs:List zc}(g:Qe cs f):∀(m:Nat) (t:List zh),kc t cs->(∀n,val t n<=f n)->rest f t<m->(xF m t cs).2=true
 |0,_,_,_,h=>by omega
 |m+1,t,h,b,v=>by
  have p:=pT cs (t,false) h;have a:=p.low f g.1 b;unfold xF;split
  ·rename_i o;refine DV g m _ (h.names p.names.symm) a ?_;have j:¬∀n,val t n=f n:=by
    intro c;rcases p.moved o with e|⟨n,e⟩
    ·cases e
    ·have:=a n;have:=c n;simp only at e;omega
   have ⟨n,l,i⟩:∃n,val (cs.foldl vD (t,false)).1 n=f n/\val t n≠f n:=by
    apply Classical.byContradiction;intro d;exact j (Ka g p.grow a p.step fun n r=>Classical.byContradiction fun o=>d ⟨n,r,o⟩)
   have q:n∈P2 t:=by
    apply Classical.byContradiction;intro d;have e:=wK d;have u:val (cs.foldl vD (t,false)).1 n=0:=wK (by rw[p.names];exact d);omega
   have:=Ia (f:=f) (t:=t) p.names (fun k s=>Nat.le_antisymm (a k) (by rw[←s];exact p.grow k)) q i l;show rest f (cs.foldl vD (t,false)).1<m;omega
  ·rfl
theorem sO{cs:List zc}(h:kc t cs)(b:∀n,val t n=0):((xF (t.length+1) t cs).2=true↔∃f,Qt cs f)/\((xF (t.length+1) t cs).2=true->Qe cs (val (xF (t.length+1) t cs).1)):=by
 refine⟨⟨fun e=>⟨_,rX _ t cs h e⟩,?_⟩,fun e=>⟨rX _ t cs h e,fun g a=>BM _ t cs h a fun n=>by rw[b];omega⟩⟩;rintro⟨g,a⟩;obtain⟨f,c⟩:=AQ a;refine DV c _ t h (fun n=>by rw[b];omega) ?_;have:=nE (fun n=>decide (val t n≠f n)) (P2 t);have d:(P2 t).length=t.length:=by simp[P2]
 unfold rest;omega
end
end Go.Proofs.YteampbddflhngaaGreat
