import Derived.Test.YteampbddflhngaaGreatV07
namespace Go.Proofs.YteampbddflhngaaGreat
section
variable {a b:ByteArray}
theorem CS:∀a:List UInt8,Op.bytesLess a a=false
 |[]=>rfl
 |x::a=>by simp[Op.bytesLess,CS a]
theorem Cu:∀a b:List UInt8,Op.bytesLess a b=false->Op.bytesLess b a=false->a=b
 |[],[],_,_=>rfl
 |[],_::_,h,_=>by simp[Op.bytesLess] at h
 |_::_,[],_,h=>by simp[Op.bytesLess] at h
 |x::a,y::b,d,c=>by
  simp only[Op.bytesLess,m9,decide_eq_false_iff_not,Bool.and_eq_false_iff,beq_eq_false_iff_ne] at d c;have e:x=y:=by
   have f:=d.1;have g:=c.1;rw[UInt8.not_lt] at f g;exact UInt8.le_antisymm g f
  subst e;rw[Cu a b (d.2.resolve_left fun h=>h rfl) (c.2.resolve_left fun h=>h rfl)]
theorem Dk:∀a b c:List UInt8,Op.bytesLess a b=true->Op.bytesLess b c=true->Op.bytesLess a c=true
 |_,[],_,h,_=>by cases ‹List UInt8›<;>simp[Op.bytesLess] at h
 |_,_::_,[],_,h=>by simp[Op.bytesLess] at h
 |[],_::_,_::_,_,_=>rfl
 |x::a,y::b,z::c,e,d=>by
  simp only[Op.bytesLess,dN,decide_eq_true_eq,uZ,beq_iff_eq] at e d ⊢;rcases e with e|⟨rfl,e⟩
  ·rcases d with d|⟨rfl,d⟩
   ·exact zf (UInt8.lt_trans e d)
   ·exact zf e
  ·rcases d with d|⟨rfl,d⟩
   ·exact zf d
   ·exact ze ⟨rfl,Dk a b c e d⟩
theorem Pr(a:ByteArray):P5 a a=false:=CS _
theorem sG(d:P5 a b=false)(c:P5 b a=false):a=b:=Qa (Cu _ _ d c)
theorem lt_trans{c:ByteArray}(e:P5 a b=true)(d:P5 b c=true):P5 a c=true:=Dk _ _ _ e d
theorem NU(h:P5 a b=true):P5 b a=false:=by
 cases c:P5 b a with
 |false=>rfl
 |true=>have:=lt_trans h c;rw[Pr] at this;cases this
def y5(l:List ByteArray):Prop:=l.Pairwise fun a b=>P5 a b=true
theorem Cq:∀{a b:List ByteArray},y5 a->y5 b->(∀x,x∈a↔x∈b)->a=b
 |[],[],_,_,_=>rfl
 |[],y::b,_,_,h=>by have:=(h y).2 (by simp);cases this
 |x::a,[],_,_,h=>by have:=(h x).1 (by simp);cases this
 |x::a,y::b,q,r,h=>by
  obtain⟨d,k⟩:=nC.1 q;obtain⟨g,l⟩:=nC.1 r;have m:x=y:=by
   have i:=(h x).1 (by simp);have f:=(h y).2 (by simp);rcases zw.1 i with i|i
   ·exact i
   ·rcases zw.1 f with f|f
    ·exact f.symm
    ·have p:=g x i;have s:=d y f;have:=lt_trans p s;rw[Pr] at this;cases this
  subst m;have n:x∉a:=fun c=>by have:=d x c;rw[Pr] at this;cases this
  have o:x∉b:=fun c=>by have:=g x c;rw[Pr] at this;cases this
  rw[Cq k l (fun z=>?_)];have j:=h z;simp only[zw] at j;constructor
  ·intro c;rcases j.1 (ze c) with e|e
   ·subst e;exact zC c n
   ·exact e
  ·intro c;rcases j.2 (ze c) with e|e
   ·subst e;exact zC c o
   ·exact e
def fE(l c:List ByteArray):Nat:=(l.filter fun y=>!yt y c).length
theorem Lx{l c:List ByteArray}{x:ByteArray}(m:x∈l)(n:x∉c):fE l (c++[x])<fE l c:=by
 unfold fE;have i:∀l:List ByteArray,(l.filter fun y=>!yt y (c++[x])).length<=(l.filter fun y=>!yt y c).length/\(x∈l->(l.filter fun y=>!yt y (c++[x])).length<(l.filter fun y=>!yt y c).length):=by
  intro l;induction l with
  |nil=>simp
  |cons y l j=>
   have f:yt y c=true->yt y (c++[x])=true:=fun h=>qS.2 (zW.2 (zf (qS.1 h)));cases g:yt y c with
   |true=>
    have d:=f g;simp only[List.filter_cons,g,d,mt,kL,if_false];refine⟨j.1,fun k=>j.2 ?_⟩;rcases zw.1 k with e|e
    ·subst e;exact zC (qS.1 g) n
    ·exact e
   |false=>
    cases d:yt y (c++[x]) with
    |true=>
     simp only[List.filter_cons,g,d,mt,Bool.not_false,kL,if_false,if_true,yZ];exact⟨by omega,fun _=>by omega⟩
    |false=>
     simp only[List.filter_cons,g,d,Bool.not_false,if_true,yZ];refine⟨by omega,fun k=>?_⟩;rcases zw.1 k with e|e
     ·subst e;rw[rj] at d;simp at d
     ·have:=j.2 e;omega
 exact(i l).2 m
theorem Bo(l:List ByteArray):fE l []=l.length:=by
 simp[fE,yt]
end
section
variable {t:List zg}
def Pb(t:List zg):List ByteArray:=t.map zg.name
theorem rK:∀(t:List zg) (n:ByteArray),∀e∈t.take (zP t n),P5 e.name n=true
 |[],_,e,h=>by simp at h
 |a::r,n,e,h=>by
  unfold zP at h;cases b:P5 a.name n with
  |false=>simp[b] at h
  |true=>
   simp only[b,if_true,nh,zw] at h;rcases h with rfl|h
   ·exact b
   ·exact rK r n e h
theorem sD:∀(t:List zg) (n:ByteArray),y5 (Pb t)->∀e∈t.drop (zP t n),P5 e.name n=false
 |[],_,_,e,h=>by simp at h
 |a::r,n,f,e,h=>by
  have b:y5 (a.name::Pb r):=f;unfold y5 at b;rw[nC] at b;unfold zP at h;cases c:P5 a.name n with
  |true=>
   simp only[c,if_true,lg] at h;exact sD r n b.2 e h
  |false=>
   simp only[c,kL,if_false,gI,zw] at h;rcases h with rfl|h
   ·exact c
   ·cases d:P5 e.name n with
    |false=>rfl
    |true=>
     have:=lt_trans (b.1 e.name (zB.2 ⟨e,h,rfl⟩)) d;rw[c] at this;cases this
theorem mB{n:ByteArray}{e:zg}(h:zY t n=some e):e∈t/\e.name=n:=by
 obtain⟨c,b,a⟩:=qI h;exact⟨by rw[←b];exact zu c,a⟩
theorem mI{n:ByteArray}(j:y5 (Pb t))(h:zY t n=none):∀e∈t,e.name≠n:=by
 intro e a d;rw[←qO (zP t n) t,zW] at a;rcases a with a|a
 ·have:=rK t n e a;rw[d,Pr] at this;cases this
 ·rcases rQ h with k|⟨k,i⟩
  ·rw[ui (by omega)] at a;cases a
  ·have f:=xg k;have g:=sD t n j t[zP t n] (by rw[f];exact rq);rw[f,zw] at a;rcases a with rfl|a
   ·exact i d
   ·have c:y5 (Pb (t.drop (zP t n))):=by
     unfold y5 Pb at *;rw[List.map_drop];exact j.sublist (List.drop_sublist _ _)
    rw[f] at c;have b:y5 (t[zP t n].name::Pb (t.drop (zP t n+1))):=c;unfold y5 at b;rw[nC] at b;have:=b.1 e.name (zB.2 ⟨e,a,rfl⟩);rw[d,g] at this;cases this
theorem rh{x e:zg}{k:Nat}:e∈uW t x k↔e=x∨e∈t:=by
 unfold uW;rw[zW,zw];constructor
 ·rintro(h|h|h)
  ·exact ze (fD h)
  ·exact zf h
  ·exact ze (g4 h)
 ·rintro(h|h)
  ·exact ze (zf h)
  ·rw[←qO k t,zW] at h;rcases h with h|h
   ·exact zf h
   ·exact ze (ze h)
theorem GE{x:zg}(i:y5 (Pb t))(j:∀e∈t,e.name≠x.name):y5 (Pb (uW t x (zP t x.name))):=by
 have l:=rK t x.name;have k:=sD t x.name i;have g:∀e∈t.drop (zP t x.name),P5 x.name e.name=true:=by
  intro e d;cases m:P5 x.name e.name with
  |true=>rfl
  |false=>exact zC (sG (k e d) m) (j e (g4 d))
 have c:=i;rw[←qO (zP t x.name) t] at c;unfold y5 Pb at c ⊢;unfold uW;rw[vB,nG] at c;rw[vB,jx,nG,nC];refine⟨c.1,⟨?_,c.2.1⟩,?_⟩
 ·intro b f;obtain⟨e,d,rfl⟩:=zB.1 f;exact g e d
 ·intro a h b f;obtain⟨e,d,rfl⟩:=zB.1 h;rcases zw.1 f with rfl|f
  ·exact l e d
  ·exact c.2.2 _ h b f
structure Qk (t:List zg) (ls:List zj):Prop where
 rise:y5 (Pb t)
 names:∀n,n∈Pb t↔∃l∈ls,l.pred=n
 jf:∀e∈t,∀l∈ls,l.pred=e.name->l.args.length=e.jf
theorem Qk.step{u:List zg}{s:List zj}{l:zj}(h:Qk t s)(i:vg t l=some u):Qk u (s++[l]):=by
 unfold vg at i;split at i
 ·rename_i e q;obtain⟨c,p⟩:=mB q;split at i
  ·rename_i r;simp only[zs] at i;subst i;refine⟨h.rise,fun n=>?_,fun m g d a b=>?_⟩
   ·rw[h.names];constructor
    ·rintro⟨d,a,b⟩;exact⟨d,by simp[a],b⟩
    ·rintro⟨d,a,b⟩;rcases zW.1 a with a|a
     ·exact⟨d,a,b⟩
     ·simp at a;subst a;exact(h.names n).1 (zB.2 ⟨e,c,by rw[p,b]⟩)
   ·rcases zW.1 a with a|a
    ·exact h.jf m g d a b
    ·simp at a;subst a;obtain⟨v,k,o⟩:=(h.names e.name).1 (zB.2 ⟨e,c,rfl⟩);rw[←r,←h.jf e c v k o];exact h.jf m g v k (by rw[o,p,b])
  ·cases i
 ·rename_i q;simp only[zs] at i;subst i;have f:=mI h.rise q;refine⟨GE h.rise f,fun n=>?_,fun m g d a b=>?_⟩
  ·constructor
   ·intro p;obtain⟨e,c,rfl⟩:=zB.1 p;rcases rh.1 c with rfl|c
    ·exact⟨l,by simp,rfl⟩
    ·obtain⟨d,a,b⟩:=(h.names e.name).1 (zB.2 ⟨e,c,rfl⟩);exact⟨d,by simp[a],b⟩
   ·rintro⟨d,a,b⟩;rcases zW.1 a with a|a
    ·obtain⟨e,c,j⟩:=zB.1 ((h.names n).2 ⟨d,a,b⟩);exact zB.2 ⟨e,rh.2 (ze c),j⟩
    ·simp at a;subst a;exact zB.2 ⟨_,rh.2 (zf rfl),b⟩
  ·rcases rh.1 g with rfl|c
   ·rcases zW.1 a with a|a
    ·obtain⟨e,c,j⟩:=zB.1 ((h.names d.pred).2 ⟨d,a,rfl⟩);exact zC (j.trans b) (f e c)
    ·simp at a;subst a;rfl
   ·rcases zW.1 a with a|a
    ·exact h.jf m c d a b
    ·simp at a;subst a;exact zC b.symm (f m c)
theorem Ck:∀(b done:List zj) (t a:List zg),Qk t done->b.foldl uk (some t)=some a->Qk a (done++b)
 |[],done,t,a,h,e=>by simp at e;subst e;simpa using h
 |l::b,done,t,a,h,e=>by
  rw[uv] at e;cases c:vg t l with
  |none=>rw[show uk (some t) l=none from c,nO] at e;cases e
  |some d=>
   rw[show uk (some t) l=some d from c] at e;have:=Ck b (done++[l]) d a (h.step c) e;rwa [ki] at this
theorem rS:Qk [] []:=⟨List.Pairwise.nil,fun n=>by simp[Pb],fun e a=>by cases a⟩
theorem AK{cs:List zc}(h:uh cs=some t):Qk t (cs.flatMap zm):=by
 have:=Ck (cs.flatMap zm) [] [] t rS h;simpa using this
end
section
variable {cs:List zc}{f:ByteArray->Nat}
def up(l:zj):Nat:=if l.neg then 1 else 0
def PW(cs:List zc)(f:ByteArray->Nat):Prop:=∀c∈cs,∀l∈c.body,f l.pred+up l<=f c.head.pred
def PH(cs:List zc)(f:ByteArray->Nat):Prop:=PW cs f/\∀g,PW cs g->∀n,f n<=g n
theorem D8{g:ByteArray->Nat}(u:PW cs g):∃f,PH cs f:=by
 have a:∀n,∃k,(∃h,PW cs h/\h n=k)/\∀h,PW cs h->k<=h n:=by
  intro n;have j:∀m,(∃h,PW cs h/\h n<=m)->∃k,(∃h,PW cs h/\h n=k)/\∀h,PW cs h->k<=h n:=by
   intro m;induction m with
   |zero=>rintro⟨h,b,q⟩;exact⟨0,⟨h,b,by omega⟩,fun _ _=>zv _⟩
   |succ m r=>
    intro t;by_cases o:∃h,PW cs h/\h n<=m
    ·exact r o
    ·obtain⟨h,b,q⟩:=t;have d:∀e,PW cs e->m+1<=e n:=fun e i=>by
      false_or_by_contra;rename_i p;exact o ⟨e,i,by omega⟩
     exact⟨m+1,⟨h,b,by have:=d h b;omega⟩,d⟩
  exact j (g n) ⟨g,u,zh _⟩
 refine⟨fun n=>(a n).choose,fun c p l s=>?_,fun h b n=>(a n).choose_spec.2 h b⟩;obtain⟨⟨h,b,x⟩,-⟩:=(a c.head.pred).choose_spec;have w:=(a l.pred).choose_spec.2 h b;have v:=b c p l s;simp only;omega
theorem QN:∀(N:Nat) (L:List Nat),(∀k,k<=N->k∈L)->N+1<=L.length
 |0,L,h=>by
  have:=h 0 (zh _);cases L with
  |nil=>cases this
  |cons=>simp
 |N+1,L,h=>by
  have a:=h (N+1) (zh _);have:=QN N (L.erase (N+1)) fun k b=>(mD (by omega)).2 (h k (by omega));rw[nS a] at this;have:0<L.length:=mM a;omega
theorem ed(h:PH cs f){ps:List ByteArray}(b:∀c∈cs,∀l∈zm c,l.pred∈ps){n:ByteArray}(s:n∈ps):f n<ps.length:=by
 false_or_by_contra
 rename_i v;have r:∃k,k<=ps.length/\k∉ps.map f:=by
  apply Classical.byContradiction;intro g;have:=QN ps.length (ps.map f) fun k p=>Classical.byContradiction fun d=>g ⟨k,p,d⟩;rw[uH] at this;omega
 obtain⟨k,p,i⟩:=r;have a:∀m∈ps,f m≠k:=fun m t e=>i (zB.2 ⟨m,t,e⟩);have u:PW cs fun m=>if k<f m then f m-1 else f m:=by
  intro c o l j;have z:=h.1 c o l j;have x:=a l.pred (b c o l (by simp[zm,j]));have w:up l<=1:=by unfold up;split<;>omega
  simp only;split<;>split<;>omega
 have q:=h.2 _ u n;have y:=a n s;split at q<;>omega
theorem K7{a b:ByteArray->Nat}(h:PH cs f)(d:∀n,a n<=b n)(i:∀n,b n<=f n)(j:∀c∈cs,∀l∈c.body,a l.pred+up l<=b c.head.pred)
  (g:∀n,b n=f n->a n=f n):∀n,a n=f n:=by
 apply Classical.byContradiction;intro r;have ⟨n,u⟩:∃n,¬a n=f n:=Classical.byContradiction fun t=>r fun n=>Classical.byContradiction fun o=>t ⟨n,o⟩;have w:PW cs fun m=>if a m=f m then f m else f m-1:=by
  intro c o l s;have x:=h.1 c o l s;have B:=j c o l s;have C:=d c.head.pred;have A:=i c.head.pred;have q:=g c.head.pred;have y:=d l.pred;have v:=i l.pred;have z:up l<=1:=by unfold up;split<;>omega
  simp only;by_cases p:a l.pred=f l.pred
  ·by_cases k:a c.head.pred=f c.head.pred
   ·rw[zb p,zb k];exact x
   ·have D:¬b c.head.pred=f c.head.pred:=fun e=>k (q e);rw[zb p,za k];omega
  ·by_cases k:a c.head.pred=f c.head.pred
   ·rw[za p,zb k];omega
   ·rw[za p,za k];omega
 have q:=h.2 _ w n;simp only[u,if_false] at q;have y:=d n;have v:=i n;omega
end
section
variable {t:List zg}
def val(t:List zg)(n:ByteArray):Nat:=match zY t n with
 |some e=>e.qh
 |none=>0
theorem iE:∀{t c:List zg},Pb t=Pb c->∀n,zP t n=zP c n
 |[],[],_,_=>rfl
 |[],_::_,h,_=>by simp[Pb] at h
 |_::_,[],h,_=>by simp[Pb] at h
 |a::r,b::q,h,n=>by
  simp only[Pb,jx,lF] at h;unfold zP;rw[h.1,iE h.2 n]
theorem CE{k:Nat}{e:zg}(d:k<t.length)(a:e.name=t[k].name):Pb (t.set k e)=Pb t:=by
 unfold Pb;rw[fu,a];apply kJ (by simp);intro i c b;rw[m5];split
 ·rename_i h;subst h;simp
 ·rfl
theorem Kw(t:List zg)(n:ByteArray)(s:Nat):Pb (xv t n s).1=Pb t:=by
 unfold xv;split
 ·rfl
 ·rename_i e a;obtain⟨c,b,d⟩:=qI a;split
  ·rfl
  ·exact CE c (by rw[b])
theorem J6{n:ByteArray}{e:zg}(s:Nat)(h:zY t n=some e)(m:ByteArray):zY (t.set (zP t n) {e with qh:=s}) m=if m=n then some {e with qh:=s} else zY t m:=by
 obtain⟨a,f,d⟩:=qI h;have g:zP (t.set (zP t n) {e with qh:=s}) m=zP t m:=iE (CE a (by rw[f])) m;unfold zY;rw[g,p3];by_cases c:m=n
 ·subst c;rw[zb rfl,zb rfl,zb a];simp[d]
 ·rw[za c];by_cases b:zP t n=zP t m
  ·rw[zb b,zb a,←b,yq a,f];simp[d,Ne.symm c]
  ·rw[za b]
theorem Bw(t:List zg)(n:ByteArray)(s:Nat)(m:ByteArray):val (xv t n s).1 m=if m=n/\(zY t n).isSome=true then max (val t n) s else val t m:=by
 unfold xv;cases b:zY t n with
 |none=>simp
 |some e=>
  simp only[qJ,and_true];have c:val t n=e.qh:=by simp[val,b]
  split
  ·split
   ·rename_i f d;rw[d,c];omega
   ·rfl
  ·rename_i f;unfold val;rw[J6 s b m,b];by_cases a:m=n
   ·rw[zb a,zb a];simp only;omega
   ·rw[za a,za a]
theorem NI(t:List zg)(n:ByteArray)(s:Nat):((xv t n s).2=false->(xv t n s).1=t)/\((xv t n s).2=true->val t n<val (xv t n s).1 n):=by
 constructor
 ·unfold xv;split
  ·exact fun _=>rfl
  ·split
   ·exact fun _=>rfl
   ·intro h;cases h
 ·intro h;rw[Bw];unfold xv at h;split at h
  ·cases h
  ·rename_i e a;split at h
   ·cases h
   ·rename_i b;have c:val t n=e.qh:=by simp[val,a]
    rw[zb ⟨rfl,by simp[a]⟩];omega
theorem Dz{t:List zg}:∀(b:List zj) (n:Nat),n<=b.foldl (vV t) n/\∀l∈b,jC t l<=b.foldl (vV t) n
 |[],n=>⟨zh _,fun l c=>by cases c⟩
 |a::b,n=>by
  have ⟨e,d⟩:=Dz (t:=t) b (vV t n a);have f:n<=vV t n a/\jC t a<=vV t n a:=by unfold vV;split<;>omega
  rw[uv];refine⟨by omega,fun l c=>?_⟩;rcases zw.1 c with rfl|c
  ·omega
  ·exact d l c
theorem BW{t:List zg}{M:Nat}:∀(b:List zj) (n:Nat),n<=M->(∀l∈b,jC t l<=M)->b.foldl (vV t) n<=M
 |[],n,h,_=>h
 |a::b,n,h,c=>by
  rw[uv];refine BW b _ ?_ fun l d=>c l (by simp[d]);have:=c a (by simp);unfold vV;split<;>omega
theorem GT{l:zj}(h:(zY t l.pred).isSome=true):jC t l=val t l.pred+up l:=by
 unfold jC val up;cases a:zY t l.pred with
 |none=>rw[a] at h;cases h
 |some e=>simp only;split<;>rfl
end
section
variable {t t':List zg}
theorem BO(t:List zg)(n:ByteArray):(zY t n).isSome=true↔(Pb t)[zP t n]?=some n:=by
 unfold zY Pb;rw[hX];cases h:t[zP t n]? with
 |none=>simp
 |some e=>
  simp only[jZ,zs];split<;>simp[*]
theorem An(h:Pb t=Pb t')(n:ByteArray):(zY t n).isSome=true↔(zY t' n).isSome=true:=by
 rw[BO,BO,h,iE h n]
def jS(t:List zg)(cs:List zc):Prop:=∀c∈cs,∀l∈zm c,(zY t l.pred).isSome=true
theorem jS.names{cs:List zc}(h:jS t cs)(d:Pb t=Pb t'):jS t' cs:=fun c b l a=>(An d _).1 (h c b l a)
structure Bu (x y:List zg×Bool) (ds:List zc):Prop where
 names:Pb y.1=Pb x.1
 grow:∀n,val x.1 n<=val y.1 n
 step:∀c∈ds,∀l∈c.body,val x.1 l.pred+up l<=val y.1 c.head.pred
 low:∀f,PW ds f->(∀n,val x.1 n<=f n)->∀n,val y.1 n<=f n
 still:y.2=false->y.1=x.1/\x.2=false
 moved:y.2=true->x.2=true∨∃n,val x.1 n<val y.1 n
theorem K5{x:List zg×Bool}{c:zc}(h:jS x.1 [c]):Bu x (vq x c) [c]:=by
 have r:=h c (by simp) c.head (by simp[zm]);have i:∀l∈c.body,jC x.1 l=val x.1 l.pred+up l:=fun l i=>GT (h c (by simp) l (by simp[zm,i]));have j:=fun m=>Bw x.1 c.head.pred (qu x.1 c) m;have p:=NI x.1 c.head.pred (qu x.1 c);refine⟨Kw _ _ _,fun n=>?_,fun q g l d=>?_,fun f s b n=>?_,fun k=>?_,fun o=>?_⟩
 ·show _<=val (xv _ _ _).1 n;rw[j];split
  ·rename_i e;rw[e.1];omega
  ·omega
 ·simp at g;subst g;show _<=val (xv _ _ _).1 _;rw[j,zb ⟨rfl,r⟩,←i l d];have:=(Dz (t:=x.1) q.body 0).2 l d;unfold qu;omega
 ·show val (xv _ _ _).1 n<=_;rw[j];split
  ·rename_i e;rw[e.1];have u:=b c.head.pred;have a:qu x.1 c<=f c.head.pred:=by
    unfold qu;refine BW c.body 0 (zv _) fun l d=>?_;have:=s c (by simp) l d;have:=b l.pred;rw[i l d];omega
   omega
  ·exact b n
 ·have a:(x.2||(xv x.1 c.head.pred (qu x.1 c)).2)=false:=k;rw[m9] at a;exact⟨p.1 a.2,a.1⟩
 ·have a:(x.2||(xv x.1 c.head.pred (qu x.1 c)).2)=true:=o;rw[dN] at a;rcases a with a|a
  ·exact zf a
  ·exact ze ⟨_,p.2 a⟩
theorem ro:∀(j:List zc) (x:List zg×Bool),jS x.1 j->Bu x (j.foldl vq x) j
 |[],x,_=>⟨rfl,fun _=>zh _,fun c r=>by(cases r),fun _ _ h=>h,fun h=>⟨rfl,h⟩,fun h=>zf h⟩
 |c::j,x,h=>by
  have d:=K5 (x:=x) (c:=c) fun b a=>by simp at a;subst a;exact h b (by simp)
  have e:=ro j (vq x c) (jS.names (fun b a=>h b (by simp[a])) d.names.symm);rw[uv];refine⟨e.names.trans d.names,fun n=>zT (d.grow n) (e.grow n),fun b a l q=>?_,fun f p k=>?_,fun m=>?_,fun o=>?_⟩
  ·rcases zw.1 a with rfl|a
   ·exact zT (d.step b (by simp) l q) (e.grow _)
   ·have:=e.step b a l q;have:=d.grow l.pred;omega
  ·exact e.low f (fun b a=>p b (by simp[a])) (d.low f (fun b a=>by simp at a;subst a;exact p b (by simp)) k)
  ·have g:=e.still m;have i:=d.still g.2;exact⟨g.1.trans i.1,i.2⟩
  ·rcases e.moved o with g|⟨n,g⟩
   ·rcases d.moved g with i|⟨n,i⟩
    ·exact zf i
    ·exact ze ⟨n,xo i (e.grow n)⟩
   ·exact ze ⟨n,Nat.lt_of_le_of_lt (d.grow n) g⟩
theorem i7{n:ByteArray}(h:n∉Pb t):val t n=0:=by
 unfold val;split
 ·rename_i e a;obtain⟨b,c⟩:=mB a;exact zC (zB.2 ⟨e,b,c⟩) h
 ·rfl
def rest(f:ByteArray->Nat)(t:List zg):Nat:=((Pb t).filter fun n=>decide (val t n≠f n)).length
theorem Ge{f:ByteArray->Nat}(k:Pb t'=Pb t)(b:∀n,val t n=f n->val t' n=f n){m:ByteArray}(g:m∈Pb t)(p:val t m≠f m)(o:val t' m=f m):rest f t'<rest f t:=by
 unfold rest;rw[k];generalize Pb t=h at g;have j:∀l:List ByteArray,(l.filter fun n=>decide (val t' n≠f n)).length<=(l.filter fun n=>decide (val t n≠f n)).length:=by
  intro l;induction l with
  |nil=>simp
  |cons a l e=>
   by_cases c:val t a=f a
   ·simp[c,b a c];simpa using e
   ·by_cases d:val t' a=f a
    ·simp[c,d];have:=e;simp at this;omega
    ·simp[c,d];simpa using e
 induction h with
 |nil=>cases g
 |cons a h e=>
  have i:=j h;rcases zw.1 g with rfl|g
  ·simp[p,o];simp at i;omega
  ·have:=e g;by_cases c:val t a=f a
   ·simp[c,b a c];simpa using this
   ·by_cases d:val t' a=f a
    ·simp[c,d];simp at this;omega
    ·simp[c,d];simpa using this
theorem tn:∀(m:Nat) (t:List zg) (cs:List zc),jS t cs->Pb (xK m t cs).1=Pb t
 |0,_,_,_=>rfl
 |m+1,t,cs,h=>by
  have p:=ro cs (t,false) h;unfold xK;split
  ·exact(tn m _ cs (h.names p.names.symm)).trans p.names
  ·exact p.names
theorem AD{f:ByteArray->Nat}:∀(m:Nat) (t:List zg) (cs:List zc),jS t cs->PW cs f->(∀n,val t n<=f n)->∀n,val (xK m t cs).1 n<=f n
 |0,_,_,_,_,h=>h
 |m+1,t,cs,h,b,a=>by
  have p:=ro cs (t,false) h;have:=p.low f b a;unfold xK;split
  ·exact AD m _ cs (h.names p.names.symm) b this
  ·exact this
theorem tu:∀(m:Nat) (t:List zg) (cs:List zc),jS t cs->(xK m t cs).2=true->PW cs (val (xK m t cs).1)
 |0,_,_,_,h=>by cases h
 |m+1,t,cs,h,d=>by
  have p:=ro cs (t,false) h;unfold xK at d ⊢;split at d
  ·rename_i a;rw[zb a];exact tu m _ cs (h.names p.names.symm) d
  ·rename_i a;rw[za a];have f:=(p.still (by simpa [vo] using a)).1;intro c b l g;have e:=p.step c b l g;show val (cs.foldl vq (t,false)).1 l.pred+up l<=val (cs.foldl vq (t,false)).1 c.head.pred;rw[f] at e ⊢;exact e
theorem BM{f:ByteArray->Nat}{cs:List zc}(o:PH cs f):∀(m:Nat) (t:List zg),jS t cs->(∀n,val t n<=f n)->rest f t<m->(xK m t cs).2=true
 |0,_,_,_,h=>by omega
 |m+1,t,h,c,v=>by
  have p:=ro cs (t,false) h;have a:=p.low f o.1 c;unfold xK;split
  ·rename_i j;refine BM o m _ (h.names p.names.symm) a ?_;have g:¬∀n,val t n=f n:=by
    intro b;rcases p.moved j with e|⟨n,e⟩
    ·cases e
    ·have:=a n;have:=b n;simp only at e;omega
   have ⟨n,i,l⟩:∃n,val (cs.foldl vq (t,false)).1 n=f n/\val t n≠f n:=by
    apply Classical.byContradiction;intro d;exact g (K7 o p.grow a p.step fun n q=>Classical.byContradiction fun j=>d ⟨n,q,j⟩)
   have r:n∈Pb t:=by
    apply Classical.byContradiction;intro d;have e:=i7 d;have u:val (cs.foldl vq (t,false)).1 n=0:=i7 (by rw[p.names];exact d);omega
   have:=Ge (f:=f) (t:=t) p.names (fun k s=>Nat.le_antisymm (a k) (by rw[←s];exact p.grow k)) r l i;show rest f (cs.foldl vq (t,false)).1<m;omega
  ·rfl
theorem tL{cs:List zc}(h:jS t cs)(b:∀n,val t n=0):((xK (t.length+1) t cs).2=true↔∃f,PW cs f)/\((xK (t.length+1) t cs).2=true->PH cs (val (xK (t.length+1) t cs).1)):=by
 refine⟨⟨fun e=>⟨_,tu _ t cs h e⟩,?_⟩,fun e=>⟨tu _ t cs h e,fun g a=>AD _ t cs h a fun n=>by rw[b];omega⟩⟩;rintro⟨g,a⟩;obtain⟨f,c⟩:=D8 a;refine BM c _ t h (fun n=>by rw[b];omega) ?_;have:=rm (fun n=>decide (val t n≠f n)) (Pb t);have d:(Pb t).length=t.length:=by simp[Pb]
 unfold rest;omega
end
end Go.Proofs.YteampbddflhngaaGreat
