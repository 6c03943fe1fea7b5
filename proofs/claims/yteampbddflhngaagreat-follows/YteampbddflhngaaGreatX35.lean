import Derived.Test.YteampbddflhngaaGreatX33
namespace Go.Proofs.YteampbddflhngaaGreat
set_option linter.all false
open Classical
section
variable {cs:List zc}{t:List zh}{L:List zE}
def xU(fs l:List zE)(f:zE):List zE:=if (yK f.1 f.2.1 fs).isSome=true∨(yK f.1 f.2.1 l).isSome=true then l else l++[f]
theorem sV{fs:List zE}{k:Nat}:∀(d l:List zE),(∀g∈d,g.2.2=k)->(∀g∈l,g.2.2=k)->l.Nodup->(∀g∈l,¬∃m,(g.1,g.2.1,m)∈fs)->(d.foldl (xU fs) l).Nodup/\∀f,f∈d.foldl (xU fs) l↔f∈l∨(f∈d/\¬∃m,(f.1,f.2.1,m)∈fs)
 |[],l,_,_,o,_=>⟨o,fun f=>by simp⟩
 |g::d,l,v,s,o,u=>by
  have y:=v g (by simp);have n:∀g∈d,g.2.2=k:=fun x j=>v x (by simp[j]);rw[un];by_cases q:(∃m,(g.1,g.2.1,m)∈fs)∨∃m,(g.1,g.2.1,m)∈l
  ·rw[show xU fs l g=l from zb (q.imp nD.2 nD.2)];obtain⟨p,r⟩:=sV d l n s o u;refine⟨p,fun f=>(r f).trans ⟨fun h=>h.imp_right fun h=>⟨by simp[h.1],h.2⟩,fun h=>?_⟩⟩;rcases h with h|⟨c,i⟩
   ·exact zg h
   ·rcases zu.1 c with rfl|c
    ·rcases q with q|⟨m,q⟩
     ·exact zB q i
     ·have:f=(f.1,f.2.1,m):=Prod.ext rfl (Prod.ext rfl (y.trans (s _ q).symm));exact zg (by rw[this];exact q)
    ·exact ze ⟨c,i⟩
  ·rw[show xU fs l g=l++[g] from za fun z=>q (z.imp nD.1 nD.1)];have w:¬∃m,(g.1,g.2.1,m)∈fs:=fun z=>q (zg z);have A:g∉l:=fun z=>q (ze ⟨g.2.2,z⟩);obtain⟨p,r⟩:=sV d (l++[g]) n (fun x j=>by
    rcases zX.1 j with z|z
    ·exact s x z
    ·rw[xO.1 z];exact y) (n8.2 ⟨o,by simp,fun a C b B e=>by rw[xO.1 B] at e;exact A (e ▸ C)⟩) (fun x j=>by
    rcases zX.1 j with z|z
    ·exact u x z
    ·rw[xO.1 z];exact w)
   refine⟨p,fun f=>(r f).trans ⟨fun h=>?_,fun h=>?_⟩⟩
   ·rcases h with h|⟨c,i⟩
    ·rcases zX.1 h with z|z
     ·exact zg z
     ·rw[xO.1 z];exact ze ⟨by simp,w⟩
    ·exact ze ⟨by simp[c],i⟩
   ·rcases h with h|⟨c,i⟩
    ·exact zg (List.mem_append_left _ h)
    ·rcases zu.1 c with rfl|c
     ·exact zg (by simp)
     ·exact ze ⟨c,i⟩
def xx(fs:List zE)(k:Nat)(a:List zc)(l:List zE):List zE:=a.foldl (fun l c=>(ye fs c.head c.body c.body []).foldl (fun l r=>xU fs l (c.head.pred,r,k)) l) l
theorem oN(fs:List zE)(k:Nat):∀(a:List zc) (l:List zE),xx fs k a l=(a.flatMap fun c=>(ye fs c.head c.body c.body []).map fun r=>(c.head.pred,r,k)).foldl (xU fs) l
 |[],l=>rfl
 |c::a,l=>by
  rw[uo,js,List.foldl_map,←oN fs k a];rfl
def yk(t:List zh)(cs:List zc)(s:Nat):List zc:=cs.filter fun c=>decide (x6 t c.head.pred=s/\0<c.body.length)
theorem Qn.round{t0:List zh}(A:PI cs t0 t)(o:ua cs t){D:DB}(h:Qn t (zp cs) L D)(s k:Nat):Qn t (zp cs) (L++xx L k (yk t cs s) []) (zy1 ((uZ t (zp cs) none cs).filter fun r=>decide (r.qh=s)) k D)/\(xx L k (yk t cs s) []=[]↔∀p x,P9 (zy1 ((uZ t (zp cs) none cs).filter fun r=>decide (r.qh=s)) k D) p x->P9 D p x):=by
 have u:∀i (hi:i<cs.length),gV (yQ ((uw none i).getD [])) (z7 cs[i]).length:=fun i hi=>tR (mi (A.many _ (zv hi)));have I:=Md A (zp cs) none u s D;generalize (uZ t (zp cs) none cs).filter (fun r=>decide (r.qh=s))=Q at *;have N:=(fZ cs).1;obtain⟨n1,V⟩:(xx L k (yk t cs s) []).Nodup/\∀f,f∈xx L k (yk t cs s) []↔(∃c∈cs,x6 t c.head.pred=s/\0<c.body.length/\∃x,nW L c x/\f=(c.head.pred,x,k))/\¬∃m,(f.1,f.2.1,m)∈L:=by
  rw[oN];obtain⟨i1,i2⟩:=sV (fs:=L) (k:=k) ((yk t cs s).flatMap fun c=>(ye L c.head c.body c.body []).map fun r=>(c.head.pred,r,k)) [] (fun g E=>by
   obtain⟨c,_,E⟩:=uF.1 E;obtain⟨r,_,rfl⟩:=z9.1 E;rfl) (fun g E=>by cases E) List.nodup_nil (fun g E=>by cases E)
  refine⟨i1,fun f=>(i2 f).trans ?_⟩;simp only[lE,false_or];refine and_congr_left fun _=>?_;rw[uF];constructor
  ·rintro⟨c,n,C⟩;obtain⟨H,G⟩:=xX.1 n;obtain⟨r,J,rfl⟩:=z9.1 C;have G:=of_decide_eq_true G;exact⟨c,H,G.1,G.2,r,(CP (h.fs o) H (o.ne H) (o.cov c H)).1 J,rfl⟩
  ·rintro⟨c,n,H,G,r,J,rfl⟩;exact⟨c,xX.2 ⟨n,decide_eq_true ⟨H,G⟩⟩,z9.2 ⟨r,(CP (h.fs o) n (o.ne n) (o.cov c n)).2 J,rfl⟩⟩
 generalize xx L k (yk t cs s) []=l at *;have q:∀p r,gT Q D p r->∃c∈cs,x6 t c.head.pred=s/\0<c.body.length/\p=zM t c.head.pred/\nW L c (uf (zp cs) r (uD t p) 3)/\dN t p=c.head.pred/\p<t.length/\PG (uD t p) r/\∀i,i<uD t p->r.getD i 0<(zp cs).length:=by
  intro p r j;obtain⟨c,n,B,S,rfl,R⟩:=(I p r).1 j;obtain⟨X,O,W,l4⟩:=o.lit c n c.head (by simp[zl]);obtain⟨d1,d2,d3⟩:=h.der1 o n R;exact⟨c,n,S,B,rfl,by rw[O];exact d1,W,X,by rw[O];exact d2,by rw[O];exact d3⟩
 have w:∀p r,D p r=none->gT Q D p r->(dN t p,uf (zp cs) r (uD t p) 3,k)∈l:=by
  intro p r d j;obtain⟨c,n,S,B,ab,R,Z,u,T,M⟩:=q p r j;refine(V _).2 ⟨⟨c,n,S,B,_,R,by rw[Z]⟩,fun⟨m,hm⟩=>?_⟩;obtain⟨p',aa,K,m',P,e⟩:=(h.mem _).1 hm;simp only[yc] at e;have:p=p':=by rw[←(dV o.rise u).1,←(dV o.rise aa).1,e.1]
  subst this;have hI:P9 D p K:=by unfold P9;rw[P];rfl
  have e1:=mU N (o.small p u) T M;have U:=mU N (o.small p u) (h.ok p K hI).2 (h.inside p K hI);rw[e.2.1] at e1;change fS (zp cs) (uf (zp cs) K (uD t p) 3) 0 [0,0,0]=some K at U;rw[e1,zr] at U;rw[U,P] at d;cases d
 have y:∀f∈l,∃p,p<t.length/\∃r,D p r=none/\gT Q D p r/\f=(dN t p,uf (zp cs) r (uD t p) 3,k):=by
  intro f C;obtain⟨⟨c,n,S,B,x,R,rfl⟩,Y⟩:=(V f).1 C;obtain⟨r,J,rfl⟩:=h.der2 o n R;have hh:c.head∈zl c:=by simp[zl]
  obtain⟨X,O,W,l4⟩:=o.lit c n c.head hh;refine⟨zM t c.head.pred,X,r,?_,(I _ r).2 ⟨c,n,B,S,rfl,J⟩,by rw[O,W]⟩;cases d:D (zM t c.head.pred) r with
  |none=>rfl
  |some m=>exact zB ⟨m,(h.lit o n hh _ m).2 ⟨r,d,rfl⟩⟩ Y
 have F:∀p r,P9 (zy1 Q k D) p r->P9 D p r∨(D p r=none/\gT Q D p r):=by
  intro p r j;unfold P9 zy1 at j;cases d:D p r with
  |some m=>exact zg (by unfold P9;rw[d];rfl)
  |none=>
   rw[d] at j;simp only at j;split at j
   ·rename_i z;exact ze ⟨rfl,z⟩
   ·cases j
 refine⟨⟨fun f=>?_,n8.2 ⟨h.once,n1,fun a ha b B e=>?_⟩,fun p r j=>?_,fun p r j=>?_⟩,fun e p r j=>?_,fun e=>?_⟩
 ·rw[zX];constructor
  ·rintro(C|C)
   ·obtain⟨p,A,r,m,d,rfl⟩:=(h.mem f).1 C;exact⟨p,A,r,m,Iz d,rfl⟩
   ·obtain⟨p,A,r,d,j,rfl⟩:=y f C;refine⟨p,A,r,k,?_,rfl⟩;unfold zy1;rw[d];exact zb j
  ·rintro⟨p,A,r,m,d,rfl⟩;unfold zy1 at d;cases v:D p r with
   |some m'=>
    rw[v] at d;cases d;exact zg ((h.mem _).2 ⟨p,A,r,m,v,rfl⟩)
   |none=>
    rw[v] at d;simp only at d;split at d
    ·rename_i z;cases d;exact ze (w p r v z)
    ·cases d
 ·subst e;exact((V a).1 B).2 ⟨a.2.2,ha⟩
 ·rcases F p r j with z|⟨_,z⟩
  ·exact h.ok p r z
  ·obtain⟨c,_,_,_,_,_,_,q1,q2,_⟩:=q p r z;exact⟨by simpa using q1,q2⟩
 ·rcases F p r j with z|⟨_,z⟩
  ·exact h.inside p r z
  ·obtain⟨c,_,_,_,_,_,_,q1,q2,q3⟩:=q p r z;exact q3
 ·rcases F p r j with z|⟨z1,z2⟩
  ·exact z
  ·have:=w p r z1 z2;rw[e] at this;cases this
 ·cases l with
  |nil=>rfl
  |cons f l=>
   obtain⟨p,_,r,d,j,_⟩:=y f (by simp);have:=e p r (o6 p r j);unfold P9 at this;rw[d] at this;cases this
theorem Qn.card(q:ua cs t){D:DB}(h:Qn t (zp cs) L D):fF D L.length:=by
 have s:=(fZ cs).1;have d:=fun p r (j:P9 D p r)=>mU s (q.small p (by have:=(h.ok p r j).1;simpa using this)) (h.ok p r j).2 (h.inside p r j);have c:∀f∈L,∃p r m,D p r=some m/\f=(dN t p,uf (zp cs) r (uD t p) 3,m)/\(zM t f.1,(fS (zp cs) f.2.1 0 [0,0,0]).getD [])=(p,r):=by
  intro f u;obtain⟨p,n,r,m,l,rfl⟩:=(h.mem f).1 u;exact⟨p,r,m,l,rfl,by rw[(dV q.rise n).1,d p r (by unfold P9;rw[l];rfl)];rfl⟩
 refine⟨L.map fun f=>(zM t f.1,(fS (zp cs) f.2.1 0 [0,0,0]).getD []),?_,fun p x=>?_,by simp⟩
 ·rw[mK,mE];have:=h.once;rw[mK] at this;refine this.imp_of_mem fun{a b} B A o e=>o ?_;obtain⟨p,r,m,l,E,v⟩:=c a B;obtain⟨y,z,C,g,k,i⟩:=c b A;rw[v,i] at e;cases e;rw[g] at l;cases l;rw[E,k]
 ·rw[z9];constructor
  ·rintro⟨f,u,e⟩;obtain⟨y,z,C,g,k,i⟩:=c f u;rw[i] at e;cases e;unfold P9;rw[g];rfl
  ·intro j;obtain⟨m,w⟩:=my.1 j;have n:p<t.length:=by have:=(h.ok p x j).1;simpa using this
   refine⟨_,(h.mem _).2 ⟨p,n,x,m,w,rfl⟩,?_⟩;rw[(dV q.rise n).1,d p x j];rfl
theorem Qn.small(a:ua cs t){D:DB}(h:Qn t (zp cs) L D)(mr:Nat):n4 D mr↔L.length<=mr:=
 ⟨fun⟨n,b,c⟩=>by rw[←oX c (h.card a)];exact b,fun q=>⟨_,q,h.card a⟩⟩
end
section
variable {t:List zh}{cs:List zc}
noncomputable def z0l(t:List zh)(cs:List zc)(mr s:Nat):Nat->Nat->List zE->Option (List zE×Nat)
 |0,_,_=>none
 |left+1,k,L=>
  if (L++xx L (k+1) (yk t cs s) []).length<=mr then
   if xx L (k+1) (yk t cs s) []=[] then some (L++xx L (k+1) (yk t cs s) [],k+1)
   else z0l t cs mr s left (k+1) (L++xx L (k+1) (yk t cs s) [])
  else none
noncomputable def zyu(t:List zh)(cs:List zc)(mr mx:Nat):Nat->Nat->Nat->List zE->Option (List zE×Nat)
 |0,_,k,L=>some (L,k)
 |n+1,s,k,L=>
  if yk t cs s=[] then zyu t cs mr mx n (s+1) k L
  else match z0l t cs mr s (mx-k) k L with
   |none=>none
   |some (L',k')=>zyu t cs mr mx n (s+1) k' L'
def xC(cs:List zc):List zE:=((cs.filter fun c=>decide (c.body.length=0)).map fun c=>(c.head.pred,c.head.args,0)).foldl (xU []) []
noncomputable def ykp(t:List zh)(cs:List zc)(mr mx:Nat):Option (List zE×Nat):=if (xC cs).length<=mr then zyu t cs mr mx t.length 0 0 (xC cs) else none
def ii(t:List zh)(ns:List ByteArray):Option (List zE×Nat)->Option (DB×Nat)->Prop
 |none,none=>True
 |some (L,k),some (D,e)=>k=e/\Qn t ns L D
 |_,_=>False
theorem Dy{cs:List zc}{f t:List zh}(e:PI cs f t)(a:ua cs t)(mr s:Nat):∀(left k:Nat) (L:List zE) (D:DB),Qn t (zp cs) L D->ii t (zp cs) (z0l t cs mr s left k L) (zyg ((uZ t (zp cs) none cs).filter fun r=>decide (r.qh=s)) mr left k D)
 |0,k,L,D,h=>trivial
 |left+1,k,L,D,h=>by
  obtain⟨b,c⟩:=h.round e a s (k+1);have d:=b.small a mr;unfold z0l zyg;by_cases q:(L++xx L (k+1) (yk t cs s) []).length<=mr
  ·rw[zb q,zb (d.2 q)];by_cases z:xx L (k+1) (yk t cs s) []=[]
   ·rw[zb z,zb (c.1 z)];exact⟨rfl,b⟩
   ·rw[za z,za fun y=>z (c.2 y)];exact Dy e a mr s left (k+1) _ _ b
  ·rw[za q,za fun y=>q (d.1 y)];trivial
theorem BX{s:Nat}:yk t cs s=[]↔¬∃c∈cs,0<c.body.length/\x6 t c.head.pred=s:=by
 unfold yk;rw[List.filter_eq_nil_iff];exact⟨fun h ⟨c,a,d,b⟩=>h c a (decide_eq_true ⟨b,d⟩),fun h c a q=>h ⟨c,a,(of_decide_eq_true q).2,(of_decide_eq_true q).1⟩⟩
theorem wV{cs:List zc}{g t:List zh}(e:PI cs g t)(c:ua cs t)(mr mx:Nat):∀(n s k:Nat) (L:List zE) (D:DB),Qn t (zp cs) L D->ii t (zp cs) (zyu t cs mr mx n s k L) (zzb (uZ t (zp cs) none cs) mr mx n s k D)
 |0,s,k,L,D,h=>⟨rfl,h⟩
 |n+1,s,k,L,D,h=>by
  unfold zyu zzb;by_cases q:yk t cs s=[]
  ·rw[zb q,zb ((CY cs s).2 (BX.1 q))];exact wV e c mr mx n (s+1) k L D h
  ·rw[za q,za fun z=>q (BX.2 ((CY cs s).1 z))];have a:=Dy e c mr s (mx-k) k L D h;cases d:z0l t cs mr s (mx-k) k L with
   |none=>
    cases b:zyg ((uZ t (zp cs) none cs).filter fun r=>decide (r.qh=s)) mr (mx-k) k D with
    |none=>trivial
    |some y=>rw[d,b] at a;exact a.elim
   |some x=>
    cases b:zyg ((uZ t (zp cs) none cs).filter fun r=>decide (r.qh=s)) mr (mx-k) k D with
    |none=>rw[d,b] at a;exact a.elim
    |some y=>
     rw[d,b] at a;obtain⟨i,f⟩:=x;obtain⟨j,l⟩:=y;obtain⟨rfl,a⟩:=a;exact wV e c mr mx n (s+1) f i j a
theorem sE(h:ua cs t){c:zc}(f:c∈cs)(j:c.body.length=0):uf (zp cs) (vx t (zp cs) c).row c.head.args.length 3=c.head.args/\PG c.head.args.length (vx t (zp cs) c).row/\∀i,i<c.head.args.length->(vx t (zp cs) c).row.getD i 0<(zp cs).length:=by
 have b:c.head∈zl c:=by simp[zl]
 have n:∀k,([0,0,0,0,0]:List Nat).getD k 0<5:=by
  intro k;rcases k with _|_|_|_|_|k<;>simp
 have g:=lG.1 j;have e:∀v,v∉z7 c:=by
  intro v d;rw[gI,g] at d;obtain⟨_,l,o,_⟩:=d;cases o
 unfold vx;rw[r5 t (zp cs) [] n];refine⟨?_,h.can f (fun v d=>zB d (e v)) c.head b⟩;rw[tg f b (h.lit c f c.head b).2.2.2];unfold PV;conv=>rhs;rw[←List.map_id c.head.args]
 refine ks fun a m=>?_;rw[za fun d=>e a (h.cov c f c.head b a m d)];rfl
theorem BS(d:ua cs t):Qn t (zp cs) (xC cs) (zz8 (vJ t (zp cs) cs)):=by
 have q:∀p x,zz8 (vJ t (zp cs) cs) p x=if ∃c∈cs,c.body.length=0/\p=zM t c.head.pred/\(vx t (zp cs) c).row=x then some 0 else none:=by
  intro p x;unfold zz8;congr 1;apply propext;unfold vJ;simp only[z9,xX];constructor
  ·rintro⟨f,⟨c,⟨a,b⟩,rfl⟩,v,u⟩;exact⟨c,a,by simpa using b,v.symm,u⟩
  ·rintro⟨c,a,b,v,u⟩;exact⟨_,⟨c,⟨a,by simp[b]⟩,rfl⟩,v.symm,u⟩
 have e:∀p x,P9 (zz8 (vJ t (zp cs) cs)) p x->∃c∈cs,c.body.length=0/\p=zM t c.head.pred/\(vx t (zp cs) c).row=x:=by
  intro p x h;unfold P9 at h;rw[q] at h;split at h
  ·assumption
  ·cases h
 obtain⟨z,A⟩:=sV (fs:=[]) (k:=0) ((cs.filter fun c:zc=>decide (c.body.length=0)).map fun c:zc=>((c.head.pred,c.head.args,0):zE)) [] (fun g l=>by
  obtain⟨c,_,rfl⟩:=z9.1 l;rfl) (fun g l=>by cases l) List.nodup_nil (fun g l=>by cases l)
 refine⟨fun f=>(A f).trans ?_,z,fun p x h=>?_,fun p x h=>?_⟩
 ·simp only[lE,false_or,exists_false,not_false_eq_true,and_true,z9,xX,decide_eq_true_eq];constructor
  ·rintro⟨c,⟨a,b⟩,rfl⟩;obtain⟨o,j,n,w⟩:=d.lit c a c.head (by simp[zl]);exact⟨_,o,(vx t (zp cs) c).row,0,by rw[q];exact zb ⟨c,a,b,rfl,rfl⟩,by rw[j,n,(sE d a b).1]⟩
  ·rintro⟨p,B,r,m,s,rfl⟩;have y:P9 (zz8 (vJ t (zp cs) cs)) p r:=by unfold P9;rw[s];rfl
   obtain⟨c,a,b,rfl,rfl⟩:=e p r y;rw[q,zb ⟨c,a,b,rfl,rfl⟩] at s;cases s;obtain⟨o,j,n,w⟩:=d.lit c a c.head (by simp[zl]);exact⟨c,⟨a,b⟩,by rw[j,n,(sE d a b).1]⟩
 ·obtain⟨c,a,b,rfl,rfl⟩:=e p x h;obtain⟨o,j,n,w⟩:=d.lit c a c.head (by simp[zl]);refine⟨by simpa using o,?_⟩;change PG (uD t _) _;rw[j];exact(sE d a b).2.1
 ·obtain⟨c,a,b,rfl,rfl⟩:=e p x h;obtain⟨o,j,n,w⟩:=d.lit c a c.head (by simp[zl]);change ∀i,i<uD t _->_;rw[j];exact(sE d a b).2.2
theorem I4{d:List zh}(f:PI cs d t)(a:ua cs t)(mr mx:Nat):ii t (zp cs) (ykp t cs mr mx) (z3f (vS t (zp cs) none cs) mr mx):=by
 have h:=BS a;have c:=h.small a mr;unfold ykp z3f;have e:(vS t (zp cs) none cs).qj.length=t.length:=by simp[vS]
 rw[e];by_cases q:(xC cs).length<=mr
 ·rw[zb q];have b:n4 (zz8 (vS t (zp cs) none cs).facts) mr:=c.2 q;rw[zb b];exact wV f a mr mx _ 0 0 _ _ h
 ·rw[za q];have b:¬n4 (zz8 (vS t (zp cs) none cs).facts) mr:=fun y=>q (c.1 y);rw[za b];trivial
end
section
variable {cs:List zc}{t:List zh}
theorem iW{α β:Type}(f:α->List β)(m:Nat):∀(l:List α),(∀x∈l,(f x).length=m)->(l.flatMap f).length=l.length*m
 |[],_=>by simp
 |a::l,h=>by
  rw[uo,yv,iW f m l (fun x b=>h x (by simp[b])),h a (by simp),xd,Nat.succ_mul];omega
def lW{α:Type}(ns:List α):Nat->List (List α)
 |0=>[[]]
 |k+1=>ns.flatMap fun x=>(lW ns k).map (x::·)
theorem i5{α:Type}(ns:List α):∀k,(lW ns k).length=ns.length ^ k
 |0=>rfl
 |k+1=>by
  unfold lW;rw[iW _ (ns.length ^ k) ns (fun x _=>by rw[uJ];exact i5 ns k),Nat.pow_succ,Nat.mul_comm]
theorem eJ{α:Type}{ns:List α}:∀(l:List α),(∀x∈l,x∈ns)->l∈lW ns l.length
 |[],_=>by simp[lW]
 |x::l,h=>by
  rw[xd];unfold lW;exact uF.2 ⟨x,h x (by simp),z9.2 ⟨l,eJ l (fun y a=>h y (by simp[a])),rfl⟩⟩
theorem Jt(a:ua cs t){L:List zE}{D:DB}(h:Qn t (zp cs) L D):L.length<=t.length*((zp cs).length+1) ^ 3:=by
 obtain⟨l,k,f,o⟩:=h.card a;rw[←o];have g:(((List.range t.length).flatMap fun p=>(lW (List.range ((zp cs).length+1)) 3).map fun r=>(p,r))).length=t.length*((zp cs).length+1) ^ 3:=by
  rw[iW _ (((zp cs).length+1) ^ 3) _ (fun x _=>by rw[uJ,i5,List.length_range]),List.length_range]
 rw[←g];refine pf k fun x b=>?_;obtain⟨p,r⟩:=x;have d:=(f p r).1 b;obtain⟨n,c⟩:=h.ok p r d;have j:=h.inside p r d;refine uF.2 ⟨p,gh.2 (by simpa using n),z9.2 ⟨r,?_,rfl⟩⟩;have:=eJ (ns:=List.range ((zp cs).length+1)) r (fun x a=>?_)
 ·rw[c.1] at this;exact this
 ·obtain⟨i,e,rfl⟩:=gE.1 a;rw[gh];by_cases m:i<(t.map (·.jh)).getD p 0
  ·have:=j i m;rw[List.getD,yr e,ux] at this;omega
  ·have:=c.2 i (by omega);rw[List.getD,yr e,ux] at this;omega
def vR(fs:List zE):List zj->yx->List yx
 |[],B=>[B]
 |l::rest,B=>if l.neg=true then vR fs rest B else fs.flatMap fun f=>if f.1=l.pred then(match xj B l.args f.2.1 with|none=>[]|some a=>vR fs rest a) else []
theorem wR(fs:List zE)(h:zj)(body:List zj):∀(rest:List zj) (B:yx),(ye fs h body rest B).length<=(vR fs rest B).length
 |[],B=>by
  unfold ye vR;split<;>simp
 |l::rest,B=>by
  unfold ye vR;split
  ·exact wR fs h body rest B
  ·have:∀a:List zE,(a.flatMap fun f=>if f.1=l.pred then(match xj B l.args f.2.1 with|none=>[]|some b=>ye fs h body rest b) else []).length<=(a.flatMap fun f=>if f.1=l.pred then(match xj B l.args f.2.1 with|none=>[]|some b=>vR fs rest b) else []).length:=by
    intro a;induction a with
    |nil=>simp
    |cons g a c=>
     rw[uo,uo,yv,yv];refine Nat.add_le_add ?_ c;split
     ·split
      ·exact zf _
      ·exact wR fs h body rest _
     ·exact zf _
   exact this fs
def gA(body:List zj)(B:yx):List (List ByteArray):=body.map fun l=>if l.neg=true then [] else y9 B l.args
theorem eC{cs:List zc}{fs:List zE}(M:pG cs fs){c:zc}(U:c∈cs)(D:∀l∈zl c,∀a∈l.args,a≠ByteArray.empty)(ho:∀f∈fs,∀g∈fs,f.1=g.1->f.2.1=g.2.1->f=g)(X:fs.Nodup):∀(rest done:List zj) (B:yx),c.body=done++rest->vN B->(∀l∈done,l.neg=false->∀a∈l.args,yd B a≠ByteArray.empty)->(∀j∈vR fs rest B,vN j/\Rm B j/\∀l∈rest,l.neg=false->(∃m,(l.pred,y9 j l.args,m)∈fs)/\∀a∈l.args,yd j a≠ByteArray.empty)/\((vR fs rest B).map (gA rest)).Nodup
 |[],done,B,e,O,Q=>by
  unfold vR;refine⟨fun j d=>?_,by simp⟩;rw[xO.1 d];exact⟨O,fun v x q=>q,fun l hl=>by cases hl⟩
 |l::rest,done,B,e,O,Q=>by
  have e2:c.body=(done++[l])++rest:=by rw[e];simp
  have J:l∈zl c:=by simp[zl,e]
  unfold vR;split
  ·rename_i i;obtain⟨L,P⟩:=eC M U D ho X rest (done++[l]) B e2 O (fun s r k=>by
    rcases zX.1 r with q|q
    ·exact Q s q k
    ·rw[xO.1 q,i] at k;cases k)
   refine⟨fun j d=>⟨(L j d).1,(L j d).2.1,fun s r k=>?_⟩,?_⟩
   ·rcases zu.1 r with rfl|q
    ·rw[i] at k;cases k
    ·exact(L j d).2.2 s q k
   ·have:(vR fs rest B).map (gA (l::rest))=((vR fs rest B).map (gA rest)).map ([]::·):=by
     rw[lT];refine ks fun j _=>?_;simp[gA,i]
    rw[this,mK,mE];rw[mK] at P;exact P.imp fun h q=>h (by simpa using q)
  ·rename_i i;have i:l.neg=false:=by simpa using i
   have n:∀f∈fs,f.1=l.pred->∀o,xj B l.args f.2.1=some o->(∀j∈vR fs rest o,vN j/\Rm B j/\y9 j l.args=f.2.1/\(∀a∈l.args,yd j a≠ByteArray.empty)/\∀s∈rest,s.neg=false->(∃m,(s.pred,y9 j s.args,m)∈fs)/\∀a∈s.args,yd j a≠ByteArray.empty)/\((vR fs rest o).map (gA rest)).Nodup:=by
    intro f w C o F;obtain⟨j1,j2,j3⟩:=nG l.args f.2.1 B o (M.jh f w c U l J C.symm).symm (M.ne f w) (D l J) O F;have y:∀a∈l.args,yd o a≠ByteArray.empty:=fun a u=>by
     have:yd o a∈y9 o l.args:=z9.2 ⟨a,u,rfl⟩;rw[j3] at this;exact M.ne f w _ this
    obtain⟨L,P⟩:=eC M U D ho X rest (done++[l]) o e2 j1 (fun s r k a u=>by
     rcases zX.1 r with q|q
     ·rw[mV j2 (Q s q k a u)];exact Q s q k a u
     ·rw[xO.1 q] at u;exact y a u)
    refine⟨fun j d=>?_,P⟩;obtain⟨S,H,R⟩:=L j d;exact⟨S,j2.trans H,by rw[←j3];exact ks fun a u=>mV H (y a u),fun a u=>by rw[mV H (y a u)];exact y a u,R⟩
   refine⟨fun j d=>?_,?_⟩
   ·obtain⟨f,w,d⟩:=uF.1 d;split at d
    ·rename_i C;split at d
     ·cases d
     ·rename_i o F;obtain⟨S,H,R,k4,k5⟩:=(n f w C o F).1 j d;refine⟨S,H,fun s r k=>?_⟩;rcases zu.1 r with rfl|q
      ·exact⟨⟨f.2.2,by rw[R,←C];exact w⟩,k4⟩
      ·exact k5 s q k
    ·cases d
   ·have Z:∀G:List zE,G.Nodup->(∀g∈G,g∈fs)->((G.flatMap fun f=>if f.1=l.pred then(match xj B l.args f.2.1 with|none=>[]|some j=>vR fs rest j) else []).map (gA (l::rest))).Nodup:=by
     intro G;induction G with
     |nil=>intro _ _;simp
     |cons g G ih=>
      intro aa z;obtain⟨W,Y⟩:=j8.1 aa;rw[uo,vC,n8];have E:=z g (by simp);refine⟨?_,ih Y (fun x hx=>z x (by simp[hx])),?_⟩
      ·split
       ·rename_i C;split
        ·simp
        ·rename_i o F;obtain⟨s1,s2⟩:=n g E C o F;have:(vR fs rest o).map (gA (l::rest))=((vR fs rest o).map (gA rest)).map (g.2.1::·):=by
          rw[lT];refine ks fun j d=>?_;simp[gA,i,(s1 j d).2.2.1]
         rw[this,mK,mE];rw[mK] at s2;exact s2.imp fun h q=>h (by simpa using q)
       ·simp
      ·intro a u b hb K;obtain⟨A,N,rfl⟩:=z9.1 u;obtain⟨A2,p,rfl⟩:=z9.1 hb;obtain⟨f,w,p⟩:=uF.1 p;split at N
       ·rename_i C;split at N
        ·cases N
        ·rename_i o F;split at p
         ·rename_i I;split at p
          ·cases p
          ·rename_i B2 T;have r1:=((n g E C o F).1 A N).2.2.1;have r2:=((n f (z f (by simp[w])) I B2 T).1 A2 p).2.2.1;have:y9 A l.args=y9 A2 l.args:=by
            simp only[gA,xQ,i,ml] at K;simpa using K.1
           have V:=ho g E f (z f (by simp[w])) (C.trans I.symm) (by rw[←r1,←r2,this]);exact W (V ▸ w)
         ·cases p
       ·cases N
    exact Z fs X (fun g Z=>Z)
theorem M0(d:ua cs t){L:List zE}{D:DB}(h:Qn t (zp cs) L D){c:zc}(w:c∈cs):(ye L c.head c.body c.body []).length<=(zp cs).length ^ (z7 c).length:=by
 refine zT (wR L c.head c.body c.body []) ?_;have ho:∀f∈L,∀g∈L,f.1=g.1->f.2.1=g.2.1->f=g:=by
  intro f hf g hg X S;obtain⟨p,R,r,m,s,rfl⟩:=(h.mem f).1 hf;obtain⟨Z,P,o,m',A,rfl⟩:=(h.mem g).1 hg;simp only at X S;have:p=Z:=by rw[←(dV d.rise R).1,←(dV d.rise P).1,X]
  subst this;have V:P9 D p r:=by unfold P9;rw[s];rfl
  have W:P9 D p o:=by unfold P9;rw[A];rfl
  have C:=mU (fZ cs).1 (d.small p R) (h.ok p r V).2 (h.inside p r V);have E:=mU (fZ cs).1 (d.small p R) (h.ok p o W).2 (h.inside p o W);change fS (zp cs) (uf (zp cs) r (uD t p) 3) 0 [0,0,0]=some r at C;change fS (zp cs) (uf (zp cs) o (uD t p) 3) 0 [0,0,0]=some o at E;rw[S,E,zr] at C;subst C;rw[A] at s;cases s;rfl
 obtain⟨h1,U⟩:=eC (h.fs d) w (d.ne w) ho h.once c.body [] [] rfl (fun v x q=>by cases q) (fun l n=>by cases n);have u:∀B∈vR L c.body [],∀v∈z7 c,yd B v∈zp cs:=by
  intro B J v j;obtain⟨T,l,n,O,F⟩:=gI.1 j;obtain⟨⟨m,G⟩,_⟩:=(h1 B J).2.2 l n O;have k:l∈zl c:=by simp[zl,n]
  obtain⟨r,s,er⟩:=(h.lit d w k _ m).1 G;obtain⟨C,E⟩:=h.can d w k (r:=r) (by unfold P9;rw[s];rfl);have:yd B v∈y9 B l.args:=z9.2 ⟨v,F,rfl⟩;rw[er] at this;simp only[uf,z9,gh] at this;obtain⟨i,hi,e⟩:=this;have h3:=(d.lit c w l k).2.2.2;rw[zb (by omega)] at e;rw[←e];exact wD (E i hi)
 have z:∀K∈vR L c.body [],∀I∈vR L c.body [],(z7 c).map (yd K)=(z7 c).map (yd I)->gA c.body K=gA c.body I:=by
  intro K _ I _ e;refine ks fun l n=>?_;split
  ·rfl
  ·rename_i O;refine ks fun a M=>?_;by_cases j:zO a=true
   ·have G:=gI.2 ⟨j,l,n,by simpa using O,M⟩;exact List.map_inj_left.1 e a G
   ·unfold yd;rw[za j,za j]
 have Q:((vR L c.body []).map fun B=>(z7 c).map (yd B)).Nodup:=by
  rw[mK,mE] at U ⊢;exact U.imp_of_mem fun{a b} M hb H e=>H (z a M b hb e)
 have:=pf Q (l2:=lW (zp cs) (z7 c).length) (fun x N=>by
  obtain⟨B,J,rfl⟩:=z9.1 N;have:=eJ (ns:=zp cs) ((z7 c).map (yd B)) (fun y Y=>by
   obtain⟨v,j,rfl⟩:=z9.1 Y;exact u B J v j)
  rw[uJ] at this;exact this)
 rw[uJ,i5] at this;exact this
theorem Li{i:List zh}(m:PI cs i t)(b:ua cs t)(l:t.length<=1000)(e:(zp cs).length<=250):∀L D,Qn t (zp cs) L D->L.length<1000000000000/\∀c∈cs,(ye L c.head c.body c.body []).length<=1000000000000:=by
 intro L D h;refine⟨?_,fun c d=>?_⟩
 ·have g:=Jt b h;have a:((zp cs).length+1) ^ 3<=251 ^ 3:=Nat.pow_le_pow_left (by omega) 3;have j:=Nat.mul_le_mul l a;have f:(1000*251 ^ 3:Nat)=15813251000:=by decide
  omega
 ·have g:=M0 b h d;have k:=mi (m.many c d);have a:(zp cs).length ^ (z7 c).length<=250 ^ (z7 c).length:=Nat.pow_le_pow_left e _;have j:250 ^ (z7 c).length<=250 ^ 5:=Nat.pow_le_pow_right (by omega) k;have f:(250 ^ 5:Nat)=976562500000:=by decide
  omega
theorem Hv{s:ByteArray}(h:uc s=.ok (cs,t)):(zp cs).length<=250:=by
 obtain⟨d,a⟩:=Bm h;have c:=Dg h;have b:=og cs a.many;have e:=Cn cs;omega
end
end Go.Proofs.YteampbddflhngaaGreat
