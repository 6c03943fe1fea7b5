import Derived.Test.YteampbddflhngaaGreatQ01
namespace Go.Proofs.YteampbddflhngaaGreat
set_option linter.all false
section
variable {pth:Nat->zi}
def un(T:zj)(q:zi):Option Nat:=Sh T 0 q
structure T4 (T T':zj) (key:zi) (m:Nat) (new:Bool) (room:Nat):Prop where
 inv:∃pth',ke T' pth'
 qf:T'.qf=T.qf
 ql:T'.ql=T.ql
 is:new=(un T key).isNone
 same:new=false->T'=T
 more:new=true->T'.count=T.count+1/\T'.qi.length<=T.qi.length+room
 sem:∀q,q.length=T.ql->un T' q=if q=key then some ((un T q).getD m) else un T q
def ke.grow{T:zj}(h:ke T pth){a v:Nat}(D:a<T.qi.length)(G:v<T.qf)(I:(pth a).length+1<T.ql)(r:zH T a v=none):
  ke (ye (y7 T) a v T.qi.length) (λc=>if c=T.qi.length then pth a++[v] else pth c)/\(∀b u,zH (ye (y7 T) a v T.qi.length) b u=if b=a/\u=v then some T.qi.length else zH T b u)/\(ye (y7 T) a v T.qi.length).qi.length=T.qi.length+1/\(ye (y7 T) a v T.qi.length).qf=T.qf/\(ye (y7 T) a v T.qi.length).ql=T.ql/\(ye (y7 T) a v T.qi.length).count=T.count:=by
 have w:=QA h.node;have p:(y7 T).qi.length=T.qi.length+1:=by simp[y7]
 obtain⟨E,J⟩:=Gj w.1 (a:=a) (v:=v) (d:=T.qi.length) (by rw[p];omega) (show v<(y7 T).qf from G) (by rw[w.2];exact r);have t:∀b u,zH (ye (y7 T) a v T.qi.length) b u=if b=a/\u=v then some T.qi.length else zH T b u:=λb u=>by rw[J,w.2]
 have j:(ye (y7 T) a v T.qi.length).qi.length=T.qi.length+1:=by rw[lu,p]
 have o:(ye (y7 T) a v T.qi.length).qf=T.qf:=by rw[nF];rfl
 have i:(ye (y7 T) a v T.qi.length).ql=T.ql:=by rw[pD];rfl
 have x:(ye (y7 T) a v T.qi.length).count=T.count:=by rw[Ep];rfl
 have g:∀c,c<T.qi.length->pth c≠pth a++[v]:=by
  intro c q e;have B:c≠0:=by rintro rfl;rw[h.root] at e;exact z9 e.symm (by simp)
  obtain⟨H,L,k,C,s⟩:=h.par c q B;rw[e] at s;have l:=pZ s rfl;have m:=h.inj a H D (fg k).1 l.1;subst m;simp only[lP,and_true] at l;rw[←l.2] at k;rw[k] at r;cases r
 refine⟨⟨by rw[i];exact h.dep,by rw[o];exact h.wid,by rw[j];omega,E,?_,λc q=>?_,λc d q y e=>?_,λc u b f n=>?_,λb F z=>?_⟩,t,j,o,i,x⟩;rw[za (by omega)];exact h.root;rw[j] at q;rw[i];by_cases e:c=T.qi.length;rw[zb e];simp;omega;rw[za e];exact h.lev c (by omega);rw[j] at q y;by_cases l:c=T.qi.length;by_cases m:d=T.qi.length;rw[l,m];rw[zb l,za m] at e;exact z9 e.symm (g d (by omega));by_cases m:d=T.qi.length;rw[za l,zb m] at e;exact z9 e (g c (by omega));rw[za l,za m] at e;exact h.inj c d (by omega) (by omega) e;rw[t] at f;rw[i] at n;by_cases e:c=a/\u=v;rw[zb e] at f;simp only[zr] at f;obtain⟨rfl,rfl⟩:=e;subst f;rw[zb rfl,za (by omega)];exact⟨by omega,rfl⟩;rw[za e] at f;have A:=(fg f).1;rw[za (by omega)] at n;obtain⟨M,K⟩:=h.kid c u b f n;rw[za (by omega),za (by omega)];exact⟨by omega,K⟩;rw[j] at F;by_cases e:b=T.qi.length;refine⟨a,v,by rw[t,zb ⟨rfl,rfl⟩,e],by rw[za (by omega),i];exact I,by rw[zb e,za (by omega)]⟩;obtain⟨c,u,k,C,s⟩:=h.par b (by omega) z;have A:=(fg k).1;refine⟨c,u,?_,by rw[za (by omega),i];exact C,by rw[za e,za (by omega)];exact s⟩;rw[t,za];exact k;rintro⟨rfl,rfl⟩;rw[r] at k;cases k
def ke.grow_sem{T k:zj}{pth:Nat->zi}(h:ke T pth){a v:Nat}(n:(pth a).length+1<T.ql)(j:zH T a v=none)(g:∀b u,zH k b u=if b=a/\u=v then some T.qi.length else zH T b u):∀(q:zi) (c:Nat),c<T.qi.length->(pth c).length+q.length=T.ql->Sh k c q=Sh T c q
 |[],c,_,_=>rfl
 |u::q,c,p,d=>by
  simp only[Sh,g];simp only[xr] at d;by_cases e:c=a/\u=v
  .obtain⟨rfl,rfl⟩:=e;rw[zb ⟨rfl,rfl⟩,j];simp only;cases q with
   |nil=>simp at d;omega
   |cons x q=>
    simp only[Sh,g];by_cases i:c=T.qi.length
    .omega
    .rw[za (λq=>i q.1.symm)];cases f:zH T T.qi.length x with
     |none=>rfl
     |some y=>have:=(fg f).1;omega
  .rw[za e];cases f:zH T c u with
   |none=>rfl
   |some b=>
    simp only;by_cases m:(pth c).length+1<T.ql
    .obtain⟨o,l⟩:=h.kid c u b f m;exact h.grow_sem n j g q b o (by rw[l];simp;omega)
    .cases q with
     |nil=>rfl
     |cons x q=>simp at d;omega
def ke.put_sem{T C:zj}{pth:Nat->zi}(h:ke T pth){a v m:Nat}(L:(pth a).length+1=T.ql)(r:a<T.qi.length)(H:zH T a v=none)(F:∀b u,zH C b u=if b=a/\u=v then some m else zH T b u):∀(q:zi) (c:Nat),c<T.qi.length->(pth c).length+q.length=T.ql->Sh C c q=if pth c++q=pth a++[v] then some m else Sh T c q
 |[],c,n,p=>by have:=h.lev c n;simp at p;omega
 |u::q,c,n,p=>by
  simp only[Sh,F];simp only[xr] at p;by_cases I:(pth c).length+1<T.ql
  .have B:c≠a:=by rintro rfl;omega
   rw[za (λq=>B q.1)];cases D:zH T c u with
   |none=>
    simp only;rw[za];intro e;have A:∀(k:Nat) (q:zi) (b:Nat),q.length=k->b<T.qi.length->pth c++u::q=pth b->False:=by
     intro k;induction k with
     |zero=>
      intro q b o t e;have:q=[]:=nf.1 o;subst this;have g:b≠0:=by rintro rfl;rw[h.root] at e;simp at e
      obtain⟨x,y,l,K,j⟩:=h.par b t g;rw[←e] at j;have f:=pZ j rfl;have:=h.inj c x n (fg l).1 f.1;subst this;simp only[lP,and_true] at f;rw[←f.2,D] at l;cases l
     |succ k G=>
      intro q b o t e;have g:b≠0:=by rintro rfl;rw[h.root] at e;simp at e
      obtain⟨x,y,l,K,j⟩:=h.par b t g;have d:q≠[]:=by rintro rfl;simp at o
      have i:q=q.dropLast++[q.getLast d]:=(Ar d).symm;rw[←e,i] at j;have w:(pth c++u::q.dropLast)++[q.getLast d]=pth x++[y]:=by rw[←j];simp
      have f:=pZ w rfl;exact G q.dropLast x (by simp[o]) (fg l).1 f.1
    have d:q≠[]:=by rintro rfl;simp at p;omega
    have i:q=q.dropLast++[q.getLast d]:=(Ar d).symm;rw[i] at e;have w:(pth c++u::q.dropLast)++[q.getLast d]=pth a++[v]:=by rw[←e];simp
    have f:=pZ w rfl;exact A _ q.dropLast a rfl r f.1
   |some b=>
    simp only;obtain⟨M,E⟩:=h.kid c u b D I;rw[h.put_sem L r H F q b M (by rw[E];simp;omega),E];simp
  .have z:q=[]:=nf.1 (by have:=h.lev c n;omega);subst z;by_cases e:c=a/\u=v
   .obtain⟨rfl,rfl⟩:=e;simp[Sh]
   .rw[za e];have s:¬pth c++[u]=pth a++[v]:=by
     intro J;have f:=pZ J rfl;exact e ⟨h.inj c a n r f.1,by simpa using f.2⟩
    rw[za s];cases zH T c u<;>rfl
def ke.reach{T:zj}(h:ke T pth):∀(k:Nat) (b:Nat),b<T.qi.length->(pth b).length=k->Sh T 0 (pth b)=some b:=by
 intro k;induction k with
 |zero=>
  intro b c a;have e:pth b=pth 0:=by rw[h.root];exact nf.1 a
  have:=h.inj b 0 c h.pos e;subst this;rw[h.root];rfl
 |succ k j=>
  intro b c a;have d:b≠0:=by rintro rfl;rw[h.root] at a;simp at a
  obtain⟨x,y,g,l,f⟩:=h.par b c d;have i:=j x (fg g).1 (by rw[f] at a;simpa using a);rw[f,nE,i];simp[Sh,g]
def iN(m:Nat):∀(r:zi) (T:zj) (pth:Nat->zi) (a:Nat),ke T pth->a<T.qi.length->T.ql<=(pth a).length+r.length->(∀v∈r,v<T.qf)->T4 T (vh m T a (pth a).length r).1 (pth a++r.take (T.ql-(pth a).length)) m (vh m T a (pth a).length r).2 (T.ql-1-(pth a).length)
 |[],T,pth,a,h,o,K,_=>by have:=h.lev a o;simp at K;omega
 |v::r,T,pth,a,h,o,K,O=>by
  have S:=h.lev a o;have R:v<T.qf:=O v (by simp);have j:=h.reach _ a o rfl;simp only[xr] at K;unfold vh;by_cases V:(pth a).length+1≥T.ql
  .rw[zb V];have M:T.ql-(pth a).length=1:=by omega
   rw[M];have i:un T (pth a++(v::r).take 1)=zH T a v:=by
    unfold un;rw[nE,j];simp only[ph,List.take_zero,Option.bind_some,Sh];cases zH T a v<;>rfl
   unfold gN;cases g:zH T a v with
   |some b=>
    refine⟨⟨pth,h⟩,rfl,rfl,by rw[i,g];rfl,λ_=>rfl,λq=>by simp at q,λq w=>?_⟩;by_cases e:q=pth a++(v::r).take 1
    .subst e;rw[zb rfl,i,g];rfl
    .rw[za e]
   |none=>
    have z:=Gj h.node (d:=m) o R g;have F:∀q c,Sh {ye T a v m with count:=(ye T a v m).count+1} c q=Sh (ye T a v m) c q:=by
     intro q;induction q with
     |nil=>intro c;rfl
     |cons x q f=>
      intro c;simp only[Sh];have:zH {ye T a v m with count:=(ye T a v m).count+1} c x=zH (ye T a v m) c x:=rfl;rw[this];cases zH (ye T a v m) c x with
      |none=>rfl
      |some b=>exact f b
    refine⟨⟨pth,?_⟩,nF _ _ _ _,pD _ _ _ _,by rw[i,g];rfl,λq=>by simp at q,λ_=>⟨by simp[Ep],by simp[lu]⟩,λq w=>?_⟩
    .have l:∀b u,zH {ye T a v m with count:=(ye T a v m).count+1} b u=if b=a/\u=v then some m else zH T b u:=z.2
     refine⟨by show 1<=(ye T a v m).ql/\(ye T a v m).ql<=3;rw[pD];exact h.dep,by show 1<=(ye T a v m).qf;rw[nF];exact h.wid,by show 0<(ye T a v m).qi.length;rw[lu];exact h.pos,z.1,h.root,λc N=>by show _<(ye T a v m).ql;rw[pD];exact h.lev c (by simpa [lu] using N),λc d N I e=>h.inj c d (by simpa [lu] using N) (by simpa [lu] using I) e,λc u b y J=>?_,λb Z H=>?_⟩
     .rw[l] at y;have A:(pth c).length+1<T.ql:=by simpa [pD] using J
      by_cases e:c=a/\u=v
      .obtain⟨rfl,rfl⟩:=e;omega
      .rw[za e] at y;obtain⟨P,C⟩:=h.kid c u b y A;exact⟨by simpa [lu] using P,C⟩
     .obtain⟨c,u,L,q2,X⟩:=h.par b (by simpa [lu] using Z) H;refine⟨c,u,?_,by simpa [pD] using q2,X⟩;rw[l,za]
      .exact L
      .rintro⟨rfl,rfl⟩;rw[g] at L;cases L
    .unfold un;rw[F,h.put_sem (by omega) o g z.2 q 0 h.pos (by rw[h.root];simpa using w),h.root];have B:(v::r).take 1=[v]:=by simp
     rw[B,po];by_cases e:q=pth a++[v]
     .rw[zb e,zb e];have:Sh T 0 q=none:=by rw[e];have:=i;unfold un at this;rw[B] at this;rw[this,g]
      rw[this];rfl
     .rw[za e,za e]
  .rw[za V];obtain⟨G,l⟩:∃G,T.ql-(pth a).length=G+1:=⟨T.ql-(pth a).length-1,by omega⟩;have D:∀p:zi,p=pth a++[v]->p++r.take (T.ql-p.length)=pth a++(v::r).take (T.ql-(pth a).length):=by
    rintro p rfl;rw[l,ph];have:T.ql-(pth a++[v]).length=G:=by simp;omega
    rw[this];simp
   unfold qk;cases g:zH T a v with
   |some b=>
    obtain⟨P,C⟩:=h.kid a v b g (by omega);have f:=iN m r T pth b h P (by rw[C];simp;omega) (λx g=>O x (by simp[g]));rw[D _ C] at f;have e:(pth b).length=(pth a).length+1:=by rw[C];simp
    rw[e] at f;exact⟨f.inv,f.qf,f.ql,f.is,f.same,λq=>⟨(f.more q).1,by have:=(f.more q).2;simp only at this ⊢;omega⟩,f.sem⟩
   |none=>
    obtain⟨g1,Y,Q,U,E,W⟩:=h.grow o R (by omega) g;have f:=iN m r (ye (y7 T) a v T.qi.length) _ T.qi.length g1 (by rw[Q];omega) (by rw[zb rfl,E];simp;omega) (λx g=>by rw[U];exact O x (by simp[g]));rw[zb rfl,E,D _ rfl] at f;have e:(pth a++[v]).length=(pth a).length+1:=by simp
    rw[e] at f;have n:∀q:zi,q.length=T.ql->un (ye (y7 T) a v T.qi.length) q=un T q:=λq w=>h.grow_sem (by omega) g Y q 0 h.pos (by rw[h.root];simpa using w);have s:(pth a++(v::r).take (T.ql-(pth a).length)).length=T.ql:=by simp;omega
    have k:un T (pth a++(v::r).take (T.ql-(pth a).length))=none:=by
     unfold un;rw[nE,j,l,ph];simp[Sh,g]
    have t:=f.is;rw[n _ s,k] at t;refine⟨f.inv,by rw[f.qf,U],by rw[f.ql,E],by rw[k];exact t,λq=>?_,λq=>⟨by rw[(f.more q).1,W],by have:=(f.more q).2;rw[Q] at this;simp only at this ⊢;omega⟩,λq w=>?_⟩
    .rw[t] at q;cases q
    .rw[f.sem q (by rw[E];exact w),n q w]
end
section
variable {T:zj}{pth:Nat->zi}
def KY(h:ke T pth)(row:zi)(m:Nat)(b:row.length=3)(a:ln T row=true):T4 T (yx T row m).1 (row.take T.ql) m (yx T row m).2 (T.ql-1):=by
 have:=iN m row T pth 0 h h.pos (by rw[h.root];simp[b];exact h.dep.2) (λv c=>by simp only[ln,fL,decide_eq_true_eq] at a;exact a v c);rw[h.root] at this;unfold yx;rw[zb a];simpa using this
def Dx(w d:Nat):(xd w d).qf=zL w:=rfl
def pT(w d:Nat):(xd w d).ql=xi d:=rfl
def lh(d:Nat):1<=xi d/\xi d<=3:=by unfold xi;by_cases b:d<1<;>by_cases a:d>3<;>simp[b,a]<;>omega
def B7(w d a v:Nat):zH (xd w d) a v=none:=by
 rw[lQ];refine za λq=>?_;have b:a=0:=by have:=q.1;simp[xd,y7] at this;exact this
 subst b;exact(kX.new (zL w)).2 v q.2
def Nn(w d:Nat):ke (xd w d) (λ_=>[]):=by
 refine⟨lh d,by show 1<=zL w;unfold zL;split<;>omega,by simp[xd,y7],?_,rfl,λa _=>by show 0<xi d;exact(lh d).1,λa b c e _=>?_,(λa v b f=>by rw[B7] at f;exact z9 f (by simp)),λb e h=>?_⟩;intro a c;have g:a=0:=by simp[xd,y7] at c;exact c
 subst g;exact(kX.new (zL w)).1;simp[xd,y7] at c e;omega;simp[xd,y7] at e;omega
def eb(w d:Nat)(q:zi)(a:q≠[]):un (xd w d) q=none:=by
 rcases q with _|⟨v,q⟩;exact z9 rfl a;simp[un,Sh,B7]
def DS(T:zj):∀(r:zi) (a level:Nat),level<T.ql->T.ql<=level+r.length->uM T a level r=Sh T a (r.take (T.ql-level))
 |[],a,level,d,c=>by simp at c;omega
 |v::r,a,level,d,c=>by
  obtain⟨k,f⟩:∃k,T.ql-level=k+1:=⟨T.ql-level-1,by omega⟩;unfold uM;rw[f,ph];simp only[Sh];cases g:zH T a v with
  |none=>rfl
  |some b=>
   simp only;by_cases e:level+1≥T.ql
   .rw[zb e];have:k=0:=by omega
    subst this;simp[Sh]
   .rw[za e,DS T r b (level+1) (by omega) (by simp at c;omega)];have:T.ql-(level+1)=k:=by omega
    rw[this]
def Hw(h:ke T pth)(row:zi)(a:row.length=3):ut T row=un T (row.take T.ql):=by
 have:=DS T row 0 0 (by have:=h.dep.1;omega) (by rw[a];have:=h.dep.2;omega);simpa [ut,un] using this
def qt(T:zj):Nat->Nat->Nat->List zi
 |0,_,_=>[[]]
 |d+1,a,f=>(List.range' f (T.qf-f)).flatMap λv=>match zH T a v with
  |none=>[]
  |some b=>(qt T d b 0).map (v::·)
def IW{d a f:Nat}(h:∀u,f<=u->zH T a u=none):qt T (d+1) a f=[]:=by
 simp only[qt,List.flatMap_eq_nil_iff,List.mem_range'_1];intro v b;rw[h v b.1]
def MQ{d a v b:Nat}:∀(n f:Nat),v-f=n->f<=v->v<T.qf->zH T a v=some b->(∀u,f<=u->u<v->zH T a u=none)->qt T (d+1) a f=(qt T d b 0).map (v::·)++qt T (d+1) a (v+1):=by
 intro n;induction n with
 |zero=>
  intro f j l h g _;have:f=v:=by omega
  subst this;obtain⟨k,e⟩:∃k,T.qf-f=k+1:=⟨T.qf-f-1,by omega⟩;have c:T.qf-(f+1)=k:=by omega
  simp only[qt,e,c,List.range'_succ,uA,g]
 |succ n o=>
  intro f j l h g i;obtain⟨k,e⟩:∃k,T.qf-f=k+1:=⟨T.qf-f-1,by omega⟩;have c:T.qf-(f+1)=k:=by omega
  rw[←o (f+1) (by omega) (by omega) h g (λu p m=>i u (by omega) m)];simp only[qt,e,c,List.range'_succ,uA,i f (zf _) (by omega),po]
def Cf(row:zi)(l v:Nat)(k:zi)(a:l<row.length):(row.set l v).take (l+1)++k=row.take l++v::k:=by
 have:(row.set l v).take (l+1)=row.take l++[v]:=by
  rw[yP (by simpa using a),List.take_set_of_le (zf _)];simp
 rw[this];simp
def IT(row:zi)(l v j:Nat)(a:l<j):(row.set l v).drop j=row.drop j:=by
 rw[List.drop_set,zb a]
def IS(E:dZ T)(N:T.ql<=3):∀(n a level f:Nat) (row:zi) (g:List zi),level<T.ql->row.length=3->f<=T.qf->(T.qf-f)+1+(T.ql-level-1)*(T.qf+1)<=n →
  ∃c,xQ T n a level f row g=some (c,g++(qt T (T.ql-level) a f).map λk=>row.take level++k++row.drop T.ql)/\c.length=3/\c.take level=row.take level/\c.drop T.ql=row.drop T.ql:=by
 intro n;induction n with
 |zero=>intro a level f row g s z P t;omega
 |succ n A=>
  intro a level f row g s z P t;obtain⟨d,D⟩:∃d,T.ql-level=d+1:=⟨T.ql-level-1,by omega⟩;unfold xQ;rcases H:yB T a f with _|v;refine⟨row,?_,z,rfl,rfl⟩;rw[D,IW (DD E H)];simp;obtain⟨R,Q,L,J⟩:=Dd E H;obtain⟨b,F⟩:=hX.1 L;have m:=MQ (d:=d) _ f rfl R Q F J;simp only;have l:(row.set level v).length=3:=by simpa using z
  have q:level<row.length:=by omega
  have h:(row.set level v).drop T.ql=row.drop T.ql:=IT row level v T.ql s;have i:(row.set level v).take level=row.take level:=by rw[List.take_set_of_le (zf _)]
  have p:T.ql-level-1=d:=by omega
  by_cases e:level+1≥T.ql;rw[zb e];have x:d=0:=by omega
  subst x;obtain⟨c,w,B,C,u⟩:=A a level (v+1) (row.set level v) (g++[row.set level v]) s l (by omega) (by rw[p] at t ⊢;omega);refine⟨c,?_,B,by rw[C,i],by rw[u,h]⟩;rw[w,D,m];simp only[qt,xZ,List.map_nil,hO,po,i,h,kz,zr,yc,true_and];congr 2;have:=Cf row level v (row.drop T.ql) q;have O:T.ql=level+1:=by omega
  rw[←h,O] at this ⊢;rw[jx] at this;exact this;rw[za e,za (by omega),F];simp only[uL];have U:d*(T.qf+1)=(d-1)*(T.qf+1)+(T.qf+1):=by
   obtain⟨j,rfl⟩:∃j,d=j+1:=⟨d-1,by omega⟩;simp[Nat.succ_mul]
  have y:T.ql-(level+1)-1=d-1:=by omega
  have r:T.ql-(level+1)=d:=by omega
  obtain⟨o,w,B,C,u⟩:=A b (level+1) 0 (row.set level v) g (by omega) l (by omega) (by rw[p] at t;rw[y];omega);rw[w];simp only;obtain⟨c,K,S,M,I⟩:=A a level (v+1) o (g++(qt T (T.ql-(level+1)) b 0).map λk=>(row.set level v).take (level+1)++k++(row.set level v).drop T.ql) s B (by omega) (by rw[p] at t ⊢;omega);have G:o.take level=row.take level:=by
   have:=congrArg (List.take level) C;rwa [List.take_take,List.take_take,fF (by omega),i] at this
  refine⟨c,?_,S,by rw[M,G],by rw[I,u,h]⟩;rw[K,D,m,r,G,u,h,vg,mT,←kz];congr 3;refine congrArg (g++·) (kU λk _=>?_);simp only[Function.comp];rw[Cf row level v k q]
def S1(k:zi)(d:Nat):zi:=k++([0,0,0]:zi).drop d
def Of(h:ke T pth)(a:Nat)(f:3*(T.qf+1)<=a):lD a T=some ((qt T T.ql 0 0).map λk=>S1 k T.ql):=by
 have d:=h.dep;have e:T.qf+1+(T.ql-1)*(T.qf+1)<=3*(T.qf+1):=by
  have:(T.ql-1)*(T.qf+1)<=2*(T.qf+1):=dM _ (by omega);omega
 obtain⟨b,c,_,_,_⟩:=IS h.node d.2 a 0 0 0 [0,0,0] [] (by omega) rfl (by omega) (by simp;omega);unfold lD;rw[c];simp[S1]
def A7(T:zj):∀(d a f:Nat) (k:zi),k∈qt T d a f↔k.length=d/\(Sh T a k).isSome=true/\(0<d->f<=k.headD 0)
 |0,a,f,k=>by
  simp only[qt,xC];constructor
  .rintro rfl;simp[Sh]
  .rintro⟨h,_⟩;exact nf.1 h
 |d+1,a,f,k=>by
  simp only[qt,uP,List.mem_range'_1];constructor
  .rintro⟨v,n,g⟩;cases c:zH T a v with
   |none=>rw[c] at g;simp at g
   |some b=>
    rw[c] at g;simp only[zE] at g;obtain⟨m,j,rfl⟩:=g;obtain⟨i,e,_⟩:=(A7 T d b 0 m).1 j;refine⟨by simp[i],?_,λ_=>by simpa using n.1⟩;simp only[Sh,c];exact e
  .rintro⟨i,e,l⟩;cases k with
   |nil=>simp at i
   |cons v k=>
    simp only[Sh] at e;simp only[List.headD_cons] at l;cases c:zH T a v with
    |none=>rw[c] at e;simp at e
    |some b=>
     rw[c] at e;have o:=(fg c).2;have:=l (by omega);refine⟨v,by omega,?_⟩;rw[c];simp only[zE];exact⟨k,(A7 T d b 0 k).2 ⟨by simpa using i,e,λ_=>zv _⟩,rfl⟩
end
def TJ:zi->zi->Prop
 |a::x,b::y=>a<b∨a=b/\TJ x y
 |_,_=>False
def oU:∀x:zi,¬TJ x x
 |[]=>id
 |a::x=>by
  rintro(h|⟨_,h⟩)
  .omega
  .exact oU x h
def i3(T:zj):∀(d a f:Nat),(qt T d a f).Pairwise TJ
 |0,a,f=>by simp[qt]
 |d+1,a,f=>by
  simp only[qt];rw[List.pairwise_flatMap];refine⟨λv _=>?_,?_⟩
  .cases zH T a v with
   |none=>exact List.Pairwise.nil
   |some b=>
    simp only;rw[mP];exact(i3 T d b 0).imp λh=>ze ⟨rfl,h⟩
  .refine List.Pairwise.imp ?_ (List.pairwise_lt_range' (s:=f) (n:=T.qf-f));intro v u i x g y e;cases j:zH T a v with
   |none=>rw[j] at g;simp at g
   |some b=>
    rw[j] at g;cases k:zH T a u with
    |none=>rw[k] at e;simp at e
    |some c=>
     rw[k] at e;simp only[zE] at g e;obtain⟨l,_,rfl⟩:=g;obtain⟨m,_,rfl⟩:=e;exact zh i
def oo(T:zj)(d a f:Nat):(qt T d a f).Nodup:=by
 refine(i3 T d a f).imp ?_;rintro x y h rfl;exact oU x h
def o7:∀{l1 l2:List zi},l1.Nodup->(∀x∈l1,x∈l2)->l1.length<=l2.length
 |[],l2,_,_=>by simp
 |a::l1,l2,c,d=>by
  have e:=d a (by simp);have g:=o7 (l1:=l1) (l2:=l2.erase a) (jN.1 c).2 (λx f=>by
   have b:x≠a:=by rintro rfl;exact(jN.1 c).1 f
   exact(m4 b).2 (d x (by simp[f])))
  rw[nI e] at g;have:=nH e;simp;omega
def JI{l1 l2:List zi}(c:l1.Nodup)(b:l2.Nodup)(h:∀x,x∈l1↔x∈l2):l1.length=l2.length:=
 Nat.le_antisymm (o7 c λx a=>(h x).1 a) (o7 b λx a=>(h x).2 a)
def RV(T:zj):List zi:=qt T T.ql 0 0
def qB(T:zj)(k:zi):k∈RV T↔k.length=T.ql/\(un T k).isSome=true:=by
 unfold RV;rw[A7];exact⟨λh=>⟨h.1,h.2.1⟩,λh=>⟨h.1,h.2,λ_=>zv _⟩⟩
structure vF (T:zj):Prop where
 inv:∃pth,ke T pth
 cnt:(RV T).length=T.count
 room:T.qi.length<=1+2*T.count
def vF.new(w d:Nat):vF (xd w d):=by
 refine⟨⟨_,Nn w d⟩,?_,by simp[xd,y7]⟩;have:RV (xd w d)=[]:=by
  rw[List.eq_nil_iff_forall_not_mem];intro k c;obtain⟨b,a⟩:=(qB _ k).1 c;rw[eb w d k (by rintro rfl;have:=(lh d).1;rw[pT] at b;simp at b;omega)] at a;cases a
 rw[this];rfl
def wD{T:zj}:∀(k:zi) (a:Nat),(Sh T a k).isSome=true->∀v∈k,v<T.qf
 |[],_,_,v,c=>by cases c
 |u::k,a,h,v,c=>by
  simp only[Sh] at h;cases d:zH T a u with
  |none=>rw[d] at h;simp at h
  |some b=>
   rw[d] at h;rcases zy.1 c with rfl|c
   .exact(fg d).2
   .exact wD k b h v c
def vF.add{T:zj}(h:vF T)(row:zi)(m:Nat)(j:row.length=3)(o:ln T row=true):
  vF (yx T row m).1/\(yx T row m).1.qf=T.qf/\(yx T row m).1.ql=T.ql/\(yx T row m).2=(un T (row.take T.ql)).isNone/\((yx T row m).2=false->(yx T row m).1=T)/\((yx T row m).2=true->(yx T row m).1.count=T.count+1)/\∀q,q.length=T.ql->un (yx T row m).1 q=if q=row.take T.ql then some ((un T q).getD m) else un T q:=by
 obtain⟨l,i⟩:=h.inv;have a:=KY i row m j o;have p:=i.dep;refine⟨⟨a.inv,?_,?_⟩,a.qf,a.ql,a.is,a.same,λq=>(a.more q).1,a.sem⟩;cases c:(yx T row m).2;rw[a.same c];exact h.cnt;rw[(a.more c).1,←h.cnt];have d:=a.is;rw[c] at d;have f:(row.take T.ql).length=T.ql:=by rw[qG,j];omega
 have g:row.take T.ql∉RV T:=λn=>by
  have:=((qB T _).1 n).2;rw[←Option.not_isNone,←d] at this;cases this
 have:=JI (l1:=RV (yx T row m).1) (l2:=row.take T.ql::RV T) (oo _ _ _ _) (jN.2 ⟨g,oo _ _ _ _⟩) (λk=>by
  rw[qB,a.ql,zy,qB];by_cases b:k.length=T.ql;rw[a.sem k b];by_cases e:k=row.take T.ql;simp[e,f];simp[e,b];constructor;intro q;exact z9 q.1 b;rintro(q|q);rw[q] at b;exact z9 f b;exact z9 q.1 b)
 simpa using this;cases c:(yx T row m).2;rw[a.same c];exact h.room;have:=a.more c;have:=h.room;omega
def vF.rows{T:zj}(h:vF T)(a:Nat)(b:3*(T.qf+1)<=a):lD a T=some ((RV T).map λk=>S1 k T.ql):=by
 obtain⟨c,d⟩:=h.inv;exact Of d a b
def vF.rowsG{T:zj}(h:vF T)(a:Nat)(c:3*(T.qf+1)<=a)(b:T.count<=1048576):rowsG a T=some ((RV T).map λk=>S1 k T.ql):=by
 unfold Go.Proofs.YteampbddflhngaaGreat.rowsG;rw[h.rows a c];simp[h.cnt,b]
def vF.okT{T:zj}(h:vF T)(a:T.count<=10000000):okT T=true:=by
 have:=h.room;simp only[Go.Proofs.YteampbddflhngaaGreat.okT,uG,decide_eq_true_eq];omega
def vF.mark{T:zj}(h:vF T)(row:zi)(a:row.length=3):ut T row=un T (row.take T.ql):=by
 obtain⟨b,c⟩:=h.inv;exact Hw c row a
def j9(J:z7)(h:Nat×Nat)(v:Nat):Option Nat:=zH (J.ja.getD h.1 yS.zero).rows ((J.ja.getD h.1 yS.zero).qi.getD h.2 0) v
def oa(J:z7):Prop:=∀i,dZ (J.ja.getD i yS.zero).rows
def qP(J a:z7):Prop:=a={J with jg:=a.jg}
def qP.trans{a b c:z7}(h:qP a b)(k:qP b c):qP a c:=by
 unfold qP at *;rw[h] at k;exact k
def qP.ja{a b:z7}(h:qP a b):b.ja=a.ja:=by rw[h]
def NR{J:z7}{h:Nat×Nat}{f:Nat}(hs:vI J h=true):qP J (vP J h f).1/\(vP J h f).2=yB (J.ja.getD h.1 yS.zero).rows ((J.ja.getD h.1 yS.zero).qi.getD h.2 0) f:=by
 unfold vP;rw[zb hs];exact⟨rfl,rfl⟩
def sg(a b c i:Nat):Prop:=i<a/\a<=i+b∨a<=i/\a+c<=i+b
def Gq(J:z7)(hs:List (Nat×Nat))(f:Nat):Option Nat->Prop
 |none=>∀u,f<=u->∃h∈hs,j9 J h u=none
 |some v=>f<=v/\(∀h∈hs,(j9 J h v).isSome=true)/\∀u,f<=u->u<v->∃h∈hs,j9 J h u=none
def GL{J a:z7}(h:qP J a)(x:Nat×Nat)(v:Nat):j9 a x v=j9 J x v:=by unfold j9;rw[h.ja]
def Jm(W f:Nat)(hs:List (Nat×Nat))(j:z7)(E:oa j)(B:∀h∈hs,vI j h=true)(T:∀h∈hs,∀v,(j9 j h v).isSome=true->v<W):
  ∀(n:Nat) (J:z7) (at' b a:Nat),qP j J->f<=at'->a<hs.length->b<=hs.length->(∀u,f<=u->u<at'->∃h∈hs,j9 j h u=none)->(∀i (x:i<hs.length),sg a b hs.length i->(j9 j hs[i] at').isSome=true)->(W-at')*(hs.length+1)+(hs.length-b)<n →
  ∃G p,kY n J hs at' b a=some (G,p)/\qP j G/\Gq j hs f p:=by
 intro n;induction n with
 |zero=>intro J at' b a _ _ _ _ _ _ h;omega
 |succ n F=>
  intro J at' b a y I H U g s Y;unfold kY;by_cases w:b<hs.length;rw[zb w];have K:hs.getD a (0,0)=hs[a]:=by simp[List.getD,H]
  have c:hs[a]∈hs:=zt H;have r:vI J hs[a]=true:=by
   have:=B _ c;unfold vI at this ⊢;rw[y.ja];exact this
  obtain⟨z,m⟩:=NR (f:=at') r;rw[y.ja] at m;rw[K];cases O:vP J hs[a] at' with
  |mk C o=>
   rw[O] at z m;simp only at z m;have l:=y.trans z;have q:=E hs[a].1;rcases o with _|v;refine⟨C,none,rfl,l,λu Q=>?_⟩;by_cases k:u<at';exact g u Q k;exact⟨hs[a],c,DD q m.symm u (by omega)⟩;obtain⟨V,X,D,R⟩:=Dd q m.symm;have S:=T _ c v D;simp only;by_cases d:v>at';rw[zb d,zb d];refine F C v (0+1) _ l (by omega) (by split<;>omega) (by omega) (λu N M=>?_) (λi x t=>?_) ?_;by_cases k:u<at';exact g u N k;exact⟨hs[a],c,R u (by omega) M⟩;have:i=a:=by
    unfold sg at t;split at t<;>omega
   subst this;exact D;have e:W-at'=(W-v)+(v-at'):=by omega
   have:(W-at')*(hs.length+1)=(W-v)*(hs.length+1)+(v-at')*(hs.length+1):=by rw[e,lm]
   have:1*(hs.length+1)<=(v-at')*(hs.length+1):=dM _ (by omega);omega;have P:v=at':=by omega
   subst P;rw[za d,za d];refine F C v (b+1) _ l I (by split<;>omega) (by omega) g (λi x t=>?_) (by omega);by_cases A:i=a;subst A;exact D;refine s i x ?_;unfold sg at t ⊢;split at t<;>omega
  rw[za w];refine⟨J,some at',rfl,y,I,λh L=>?_,g⟩;obtain⟨i,x,rfl⟩:=uO L;refine s i x ?_;unfold sg;omega
def MG(W:Nat)(J:z7)(place f n:Nat)(t:place<5)(e:oa J)(d:J.jf.getD place []≠[])(g:∀h∈J.jf.getD place [],vI J h=true)(o:∀h∈J.jf.getD place [],∀v,(j9 J h v).isSome=true->v<W)(p:W*((J.jf.getD place []).length+1)+(J.jf.getD place []).length<n):
  ∃j c,fe n J place f=some (j,c)/\qP J j/\Gq J (J.jf.getD place []) f c:=by
 have b:0<(J.jf.getD place []).length:=by
  rcases k:J.jf.getD place [] with _|⟨a,l⟩;exact z9 k d;simp
 unfold fe;rw[za (by omega)];refine Jm W f _ J e g o n J f 0 0 rfl (zf _) b (by omega) (λu q s=>by omega) (λi r m=>by unfold sg at m;omega) ?_;have:(W-f)*((J.jf.getD place []).length+1)<=W*((J.jf.getD place []).length+1):=dM _ (by omega);omega
section
variable {je:Int}
def yH(l:zw)(d:Nat):List Nat:=(List.range d).filter (zJ l)
def yv(l:zw)(vals:List Nat)(d:Nat):zi:=(yH l d).map λp=>vals.getD p 0
def lE(l:zw)(d:Nat):yH l (d+1)=if zJ l d then yH l d++[d] else yH l d:=by
 unfold yH;rw[List.range_succ,rq];by_cases h:zJ l d<;>simp[h]
def p7(l:zw)(d p:Nat):p∈yH l d↔p<d/\zJ l p=true:=by simp[yH]
def iz(l:zw){a b:Nat}(h:a<=b):yH l a <+: yH l b:=by
 induction h with
 |refl=>exact List.prefix_rfl
 |step h c=>
  rw[lE];split;exact c.trans (List.prefix_append _ _);exact c
def oT(l:zw)(p:Nat):yV l p=if zJ l p then some (yH l p).length else none:=by
 unfold yV yH;rw[sP]
def fd(l:zw):yZ l=(yH l 5).length:=by
 unfold yZ yH;rw[sP]
def pp(l:zw)(vals:List Nat)(d:Nat):(yv l vals d).length=(yH l d).length:=by simp[yv]
def tZ(l:zw){x y:List Nat}{d:Nat}(h:∀p,p<d->zJ l p=true->x.getD p 0=y.getD p 0):yv l x d=yv l y d:=by
 unfold yv;refine kU λp a=>?_;have:=(p7 l d p).1 a;exact h p this.1 this.2
def AB(l:zw)(vals:List Nat){a b:Nat}(h:a<=b):yv l vals a=(yv l vals b).take (yH l a).length:=by
 obtain⟨t,c⟩:=iz l h;unfold yv;rw[←c];simp
def Eo(l:zw)(vals:List Nat)(d v:Nat)(c:d<vals.length):yv l (vals.set d v) (d+1)=if zJ l d then yv l vals d++[v] else yv l vals d:=by
 have a:(yH l d).map (λp=>(vals.set d v).getD p 0)=(yH l d).map λp=>vals.getD p 0:=by
  refine kU λp b=>?_;have:=(p7 l d p).1 b;rw[uB,za (by omega)]
 unfold yv;rw[lE];split;rw[vg,a];simp[c];exact a
def A4:∀{l1 l2:List Nat},l1.Nodup->(∀x∈l1,x∈l2)->l1.length<=l2.length
 |[],l2,_,_=>by simp
 |a::l1,l2,c,d=>by
  have e:=d a (by simp);have g:=A4 (l1:=l1) (l2:=l2.erase a) (jN.1 c).2 (λx f=>by
   have b:x≠a:=by rintro rfl;exact(jN.1 c).1 f
   exact(m4 b).2 (d x (by simp[f])))
  rw[nI e] at g;have:=nH e;simp;omega
def gS(l:zw)(p:Nat):zJ l p=true↔∃t∈l.qg,t.var=true/\t.num=p:=by
 unfold zJ;rw[gi];constructor;rintro⟨t,b,a⟩;simp only[uG,beq_iff_eq] at a;exact⟨t,b,a.1,a.2⟩;rintro⟨t,b,a,c⟩;exact⟨t,b,by simp[a,c]⟩
def iQ(l:zw)(d:Nat):(yH l d).length<=l.qg.length:=by
 have:=A4 (l1:=yH l d) (l2:=l.qg.map (·.num)) (List.nodup_range.filter _) (λp a=>by
  obtain⟨t,b,_,c⟩:=(gS l p).1 ((p7 l d p).1 a).2;exact zE.2 ⟨t,b,c⟩)
 simpa using this
def rK(je:Int):∀(ts:List yd) (k:Int),k<=ts.foldl (λk t=>if t.var&&decide ((t.num:Int)<je)&&decide ((t.num:Int)>k) then(t.num:Int) else k) k/\(∀t∈ts,t.var=true->(t.num:Int)<je->(t.num:Int)<=ts.foldl (λk t=>if t.var&&decide ((t.num:Int)<je)&&decide ((t.num:Int)>k) then(t.num:Int) else k) k)/\(k<je->ts.foldl (λk t=>if t.var&&decide ((t.num:Int)<je)&&decide ((t.num:Int)>k) then(t.num:Int) else k) k<je)
 |[],k=>⟨Int.le_refl _,λt h=>(by cases h),λh=>h⟩
 |t::ts,k=>by
  simp only[uu];by_cases d:(t.var&&decide ((t.num:Int)<je)&&decide ((t.num:Int)>k))=true
  .rw[zb d];simp only[uG,decide_eq_true_eq] at d;obtain⟨f,g,e⟩:=rK je ts (t.num:Int);refine⟨by omega,λu a c b=>?_,λ_=>e (by omega)⟩;rcases zy.1 a with rfl|a
   .exact f
   .exact g u a c b
  .rw[za d];obtain⟨f,g,e⟩:=rK je ts k;refine⟨f,λu a c b=>?_,e⟩;rcases zy.1 a with rfl|a
   .have:(u.num:Int)<=k:=by
     simp only[c,b,mQ,decide_true,decide_eq_true_eq] at d;omega
    omega
   .exact g u a c b
def AA(l:zw){p:Nat}(c:zJ l p=true)(d:(p:Int)<je):(p:Int)<=jQ l je:=by
 obtain⟨t,a,b,e⟩:=(gS l p).1 c;have:=(rK je l.qg (-1)).2.1 t a b (by omega);unfold jQ;omega
def ED(l:zw)(a:0<=je):jQ l je<je:=(rK je l.qg (-1)).2.2 (by omega)
def Kn(l:zw)(je:Int):-1<=jQ l je:=(rK je l.qg (-1)).1
def sV:∀(ts:List yd) (k:Nat),k<=ts.foldl (λk t=>if t.var&&decide (t.num≥k) then t.num+1 else k) k/\(∀t∈ts,t.var=true->t.num<ts.foldl (λk t=>if t.var&&decide (t.num≥k) then t.num+1 else k) k)/\∀b,k<=b->(∀t∈ts,t.var=true->t.num<b)->ts.foldl (λk t=>if t.var&&decide (t.num≥k) then t.num+1 else k) k<=b
 |[],k=>⟨zf _,λt h=>(by cases h),λb h _=>h⟩
 |t::ts,k=>by
  simp only[uu];by_cases c:(t.var&&decide (t.num≥k))=true
  .rw[zb c];simp only[uG,decide_eq_true_eq] at c;obtain⟨j,g,f⟩:=sV ts (t.num+1);refine⟨by omega,λu a e=>?_,λb i d=>f b (by have:=d t (by simp) c.1;omega) λu a=>d u (by simp[a])⟩;rcases zy.1 a with rfl|a
   .omega
   .exact g u a e
  .rw[za c];obtain⟨j,g,f⟩:=sV ts k;refine⟨j,λu a e=>?_,λb i d=>f b i λu a=>d u (by simp[a])⟩;rcases zy.1 a with rfl|a
   .have:u.num<k:=by simp only[e,mQ,decide_eq_true_eq] at c;omega
    omega
   .exact g u a e
def tI(l:zw){p:Nat}(b:zJ l p=true):p<uU l:=by
 obtain⟨t,c,a,d⟩:=(gS l p).1 b;have:=(sV l.qg 0).2.1 t c a;unfold uU;omega
def Gd(l:zw){k:Nat}(h:∀p,zJ l p=true->p<k):uU l<=k:=
 (sV l.qg 0).2.2 k (by omega) λt a b=>h t.num ((gS l t.num).2 ⟨t,a,b,rfl⟩)
def IG(l:zw)(a:0<=je):qC l je<je:=by
 unfold qC;split;omega;exact ED l a
def o8(je:Int):∀(a:List zw) (b:Int),b<=a.foldl (vM je) b/\(∀l∈a,qC l je<=a.foldl (vM je) b)/\(0<=je->b<je->a.foldl (vM je) b<je)
 |[],b=>⟨Int.le_refl _,λl h=>(by cases h),λ_ h=>h⟩
 |l::a,b=>by
  simp only[uu];obtain⟨j,f,e⟩:=o8 je a (vM je b l);have g:b<=vM je b l/\qC l je<=vM je b l:=by unfold vM;split<;>omega
  refine⟨by omega,λu c=>?_,λd i=>e d ?_⟩
  .rcases zy.1 c with rfl|c
   .omega
   .exact f u c
  .have:=IG l d;unfold vM;split<;>omega
def sQ(r:zs)(a:0<=je):xE r je<je/\-1<=xE r je/\jQ r.head je<=xE r je/\(∀l∈r.qc,qC l je<=xE r je)/\∀l∈r.qw,qC l je<=xE r je:=by
 unfold xE;obtain⟨g,d,c⟩:=o8 je r.qc (jQ r.head je);obtain⟨h,b,f⟩:=o8 je r.qw (r.qc.foldl (vM je) (jQ r.head je));have:=Kn r.head je;exact⟨f a (c a (ED r.head a)),by omega,by omega,λl e=>by have:=d l e;omega,b⟩
def Fq{l:zw}{je:Nat}{b:Int}(h:qC l je<=b):(∀p,zJ l p=true->p<je)∨∀p,zJ l p=true->p<je->(p:Int)<=b:=by
 unfold qC at h;by_cases c:(uU l:Int)<=je;exact zh λp a=>by have:=tI l a;omega
 rw[za c] at h;exact ze λp a d=>by have:=AA l (je:=(je:Int)) a (by omega);omega
end
section
variable {r:zs}{i:Nat}{hs:List (Nat×Nat)}
structure dC (r:zs):Prop where
 vars:r.vars<=5
 qg:∀l∈r.qc,l.qg.length<=3
 qc:∀l∈r.qc,∀p,zJ l p=true->p<r.vars
 qw:∀l∈r.qw,∀p,zJ l p=true->p<r.vars
 head:∀p,zJ r.head p=true->p<r.vars
 safe:∀p,p<r.vars->∃l∈r.qc,zJ l p=true
structure dH (r:zs) (Ts:List zj) (W:Nat):Prop where
 len:Ts.length=r.qc.length
 ok:∀(i:Nat) (l:zw) (T:zj),r.qc[i]?=some l->Ts[i]?=some T->vF T/\T.ql=xi (yZ l)/\T.qf<=W
structure jw (r:zs) (Ts Ns:List zj) (J:z7):Prop where
 head:J.head=r.head
 vars:J.vars=r.vars
 jf:J.jf=(List.range 5).map (xn r)
 jh:J.jh=(List.range 5).map λp=>xE r (p:Nat)
 last:J.last=xE r r.vars
 bars:J.bars=(r.qw.zip Ns).map λx=>⟨x.1,uU x.1,x.2⟩
 ja:J.ja.map (·.rows)=Ts
 vlen:J.jd.length=5
 flen:J.from.length=5
def np(l:zw){x y:List Nat}(h:∀p,zJ l p=true->x.getD p 0=y.getD p 0):zG l x=zG l y:=by
 have a:∀i,R0 l x i=R0 l y i:=by
  intro i;unfold R0;split;rename_i c;unfold SG;rw[show l.qg.getD i ⟨false,0,0⟩=l.qg[i] by simp[List.getD,c]];split;rename_i b;simp only[uG,decide_eq_true_eq] at b;exact h _ ((gS l _).2 ⟨_,zt c,b.1,rfl⟩);rfl;rfl
 unfold zG;rw[a,a,a]
def wO(T:zj)(l:zw)(y:List Nat):Prop:=(yZ l=0->T.count≠0)/\(yZ l≠0->(un T (yv l y 5)).isSome=true)
def qW(r:zs)(a Ns:List zj)(y:List Nat):Prop:=(∀(i:Nat) (l:zw) (T:zj),r.qc[i]?=some l->a[i]?=some T->wO T l y)/\∀x∈r.qw.zip Ns,ut x.2 (zG x.1 y)=none
def Hm{l:zw}(a:∀p,zJ l p=true->p<r.vars){d:Nat}(c:r.vars<=d):yH l d=yH l r.vars:=by
 induction c with
 |refl=>rfl
 |@step m h b=>
  rw[lE,za (λq=>by have:=a _ q;have:r.vars<=m:=h;omega),b]
def OP(b:r.vars<=5){l:zw}(a:∀p,zJ l p=true->p<r.vars)(y:List Nat):yv l y 5=yv l y r.vars:=by
 unfold yv;rw[Hm a b]
def Mn(r:zs)(J:z7)(d:Nat):Prop:=∀(i:Nat) (l:zw) (s:yS),r.qc[i]?=some l->J.ja[i]?=some s->s.qi.length=3/\(∀k,k<=(yH l d).length->k<3->Sh s.rows 0 ((yv l J.jd d).take k)=some (s.qi.getD k 0))/\(Sh s.rows 0 (yv l J.jd d)).isSome=true
def Pn(r:zs)(Ns:List zj)(vals:List Nat)(d:Nat):Prop:=∀x∈r.qw.zip Ns,uU x.1<=d->ut x.2 (zG x.1 vals)=none
def Em{d c:Nat}(h:(i,c)∈xn r d):∃l,r.qc[i]?=some l/\zJ l d=true/\c=(yH l d).length:=by
 unfold xn at h;simp only[lL,vK,yc] at h;obtain⟨⟨l,j⟩,g,f,a,b,k⟩:=h;rw[oT] at a;split at a;rename_i e;simp only[zr] at a;have:=pG.1 g;simp only at this b e a;subst b;exact⟨l,this,e,by omega⟩;cases a
def SO{d:Nat}{l:zw}(h:r.qc[i]?=some l)(a:zJ l d=true):(i,(yH l d).length)∈xn r d:=by
 unfold xn;simp only[lL,vK,yc];refine⟨(l,i),pG.2 h,(yH l d).length,?_,rfl,rfl⟩;rw[oT,zb a]
def AL(r:zs)(d:Nat):((xn r d).map (·.1)).Nodup:=by
 unfold xn;have e:∀(b:List zw) (n:Nat),(((b.zipIdx n).filterMap λx=>(yV x.1 d).map λc=>(x.2,c)).map (·.1)).Nodup/\∀i∈((b.zipIdx n).filterMap λx=>(yV x.1 d).map λc=>(x.2,c)).map (·.1),n<=i:=by
  intro b;induction b with
  |nil=>intro n;simp
  |cons l b m=>
   intro n;obtain⟨h,f⟩:=m (n+1);rw[List.zipIdx_cons,sq];rcases j:(yV l d).map λc=>(n,c) with _|x;exact⟨h,λi g=>by have:=f i g;omega⟩;have o:x.1=n:=by
    simp only[vK] at j;obtain⟨a,_,rfl⟩:=j;rfl
   simp only[xZ,jN,zy];refine⟨⟨λk=>by have:=f _ k;omega,h⟩,?_⟩;rintro i (rfl|g);omega;have:=f i g;omega
 exact(e r.qc 0).1
def setDown(v a:Nat)(s:yS):yS:=if a+1≥3 then s else{s with qi:=s.qi.set (a+1) ((zH s.rows (s.qi.getD a 0) v).getD 0)}
def NW{J:z7}{v:Nat}{h:Nat×Nat}(hs:vI J h=true):vf v J h={J with ja:=J.ja.set h.1 (setDown v h.2 (J.ja.getD h.1 yS.zero))}:=by
 unfold vf setDown;by_cases a:h.2+1≥3;rw[zb (ze a),zb a];have b:h.1<J.ja.length:=by simp only[vI,uG,decide_eq_true_eq] at hs;exact hs.1
 have:J.ja.set h.1 (J.ja.getD h.1 yS.zero)=J.ja:=by
  rw[show J.ja.getD h.1 yS.zero=J.ja[h.1] by simp[List.getD,b]];exact sD _
 rw[this];rw[za (by rintro(q|q);rw[hs] at q;cases q;exact a q),za a]
def BX(v:Nat):∀(hs:List (Nat×Nat)) (J:z7),(hs.map (·.1)).Nodup->(∀h∈hs,vI J h=true)->∃c,hs.foldl (vf v) J={J with ja:=c}/\c.length=J.ja.length/\∀i s,J.ja[i]?=some s->c[i]?=some (match hs.lookup i with|none=>s|some d=>setDown v d s)
 |[],J,_,_=>⟨J.ja,rfl,rfl,λi s h=>by simpa using h⟩
 |(j,d)::hs,J,f,e=>by
  simp only[uu];have g:=e (j,d) (by simp);rw[NW g];simp only;have k:j<J.ja.length:=by simp only[vI,uG,decide_eq_true_eq] at g;exact g.1
  simp only[xZ,jN] at f;obtain⟨c,n,w,l⟩:=BX v hs {J with ja:=J.ja.set j (setDown v d (J.ja.getD j yS.zero))} f.2 (λh u=>by
   have:=e h (by simp[u]);unfold vI at this ⊢;simpa using this)
  refine⟨c,n,by simpa using w,λi s m=>?_⟩;by_cases b:i=j
  .subst b;have p:J.ja.getD i yS.zero=s:=by simp[List.getD,m]
   have:=l i (setDown v d s) (by rw[p];simp[k]);rw[this];have a:hs.lookup i=none:=by
    rw[List.lookup_eq_none_iff];intro x t;have:x.1≠i:=by
     rintro rfl;exact f.1 (zE.2 ⟨x,t,rfl⟩)
    simpa using λq=>this q.symm
   rw[a];simp[List.lookup]
  .have:=l i s (by simp only[rp,Ne.symm b,if_false];exact m);rw[this];have o:(i == j)=false:=by simp[b]
   simp[List.lookup,o]
def Qp{d:Nat}(c:(hs.map (·.1)).Nodup)(f:(i,d)∈hs):hs.lookup i=some d:=by
 induction hs with
 |nil=>cases f
 |cons a hs h=>
  obtain⟨j,m⟩:=a;simp only[xZ,jN] at c;rcases zy.1 f with e|b;simp only[yc] at e;obtain⟨rfl,rfl⟩:=e;simp[List.lookup];have:i≠j:=by
   rintro rfl;exact c.1 (zE.2 ⟨(i,d),b,rfl⟩)
  have g:(i == j)=false:=by simp[this]
  simp only[List.lookup,g];exact h c.2 b
def LQ(h:∀a,(i,a)∉hs):hs.lookup i=none:=by
 rw[List.lookup_eq_none_iff];rintro⟨j,m⟩ b;have:i≠j:=by rintro rfl;exact h m b
 simpa using this
end
section
variable {r:zs}{Ts Ns:List zj}{J:z7}
structure SJ (r:zs) (Ts Ns:List zj) (W:Nat) (J:z7) (d:Nat):Prop where
 stat:jw r Ts Ns J
 qi:Mn r J d
 nob:Pn r Ns J.jd d
 «from» : ∀i,i<d->J.from.getD i 0=J.jd.getD i 0+1
 small:∀i,i<d->J.jd.getD i 0<W
def jw.same{a:z7}(h:jw r Ts Ns J)(s:qP J a):jw r Ts Ns a:=by
 rw[s];exact⟨h.head,h.vars,h.jf,h.jh,h.last,h.bars,h.ja,h.vlen,h.flen⟩
def SJ.same{r:zs}{Ts Ns:List zj}{W:Nat}{J a:z7}{d:Nat}(h:SJ r Ts Ns W J d)(s:qP J a):SJ r Ts Ns W a d:=by
 refine⟨h.stat.same s,?_,?_,?_,?_⟩;rw[s];exact h.qi;rw[s];exact h.nob;rw[s];exact h.from;rw[s];exact h.small
def SJ.back{W d b:Nat}(h:SJ r Ts Ns W J d)(c:b<=d):SJ r Ts Ns W J b:=by
 refine⟨h.stat,λi l s u g=>?_,λx p f=>h.nob x p (by omega),λi q=>h.from i (by omega),λi q=>h.small i (by omega)⟩;obtain⟨j,o,a⟩:=h.qi i l s u g;have t:=(iz l c).length_le;refine⟨j,λk f m=>?_,?_⟩;rw[AB l J.jd c,List.take_take,fF f];exact o k (by omega) m;rw[AB l J.jd c];have e:yv l J.jd d=(yv l J.jd d).take (yH l b).length++(yv l J.jd d).drop (yH l b).length:=(jx _ _).symm;rw[e,nE] at a;rcases n:Sh s.rows 0 ((yv l J.jd d).take (yH l b).length) with _|x;rw[n] at a;cases a;rfl
def jw.side(h:jw r Ts Ns J){i:Nat}{s:yS}(hs:J.ja[i]?=some s):Ts[i]?=some s.rows:=by
 rw[←h.ja];simp[hs]
def jw.some{r:zs}{Ts Ns:List zj}{W:Nat}{J:z7}(h:jw r Ts Ns J)(b:dH r Ts W){i:Nat}{l:zw}(a:r.qc[i]?=some l):∃s,J.ja[i]?=some s:=by
 have d:J.ja.length=r.qc.length:=by rw[←b.len,←h.ja];simp
 have c:=(kf.1 a).1;exact⟨_,yi (by omega)⟩
def jw.holdsAt(h:jw r Ts Ns J){d:Nat}(a:d<5):J.jf.getD d []=xn r d:=by
 rw[h.jf];simp[List.getD,a]
def SJ.hold{W d:Nat}(h:SJ r Ts Ns W J d)(o:dC r)(j:dH r Ts W){x:Nat×Nat}(q:x∈xn r d):
  ∃l s,r.qc[x.1]?=some l/\J.ja[x.1]?=some s/\zJ l d=true/\x.2=(yH l d).length/\x.2<3/\vI J x=true/\vF s.rows/\s.rows.qf<=W/\∀v,Sh s.rows 0 (yv l J.jd d++[v])=j9 J x v:=by
 obtain⟨i,g⟩:=x;obtain⟨l,b,k,c⟩:=Em q;obtain⟨s,a⟩:=h.stat.some j b;have n:(yH l (d+1)).length=g+1:=by rw[lE,zb k,c];simp
 have e:g<3:=by
  have:=iQ l (d+1);have:=o.qg l (gU b);omega
 have f:=(kf.1 a).1;obtain⟨m,y,t⟩:=j.ok i l s.rows b (h.stat.side a);refine⟨l,s,b,a,k,c,e,by simp[vI,f,e],m,t,λv=>?_⟩;obtain⟨w,p,u⟩:=h.qi i l s b a;have:=p g (by omega) e;rw[c,show(yv l J.jd d).take (yH l d).length=yv l J.jd d by rw[←pp l J.jd d];exact uR] at this;rw[nE,this];unfold j9;simp only[List.getD,a,uL,Option.bind_some,Sh,c];cases zH s.rows _ v<;>rfl
def wJ(h:jw r Ts Ns J)(k:Nat):uW J k=true↔∃x∈r.qw.zip Ns,uU x.1=k/\(ut x.2 (zG x.1 J.jd)).isSome=true:=by
 unfold uW;rw[h.bars,List.any_map,gi];simp
def SJ.take{r:zs}{Ts Ns:List zj}{W:Nat}{J:z7}{d v:Nat}(h:SJ r Ts Ns W J d)(Z:dC r)(hf:dH r Ts W)(hd:d<r.vars)(hv:∀x∈xn r d,(j9 J x v).isSome=true)(hW:v<W):
  (us J d v).jd=J.jd.set d v/\(∀i,i<d->(us J d v).from.getD i 0=J.from.getD i 0)/\(us J d v).from.getD d 0=v+1/\(d+1<5->(us J d v).from.getD (d+1) 0=0)/\SJ r Ts Ns W (us J d v) d/\(uW (us J d v) (d+1)=false->SJ r Ts Ns W (us J d v) (d+1)):=by
 have ac:=Z.vars;have T:d<5:=by omega
 have ab:=h.stat.vlen;have U:=h.stat.flen;unfold us;rw[za (by omega),h.stat.holdsAt T];obtain⟨Q,e1,e2,X⟩:=BX v (xn r d) {J with jd:=J.jd.set d v,«from»:=(if d+1<5 then(J.from.set d (v+1)).set (d+1) 0 else J.from.set d (v+1))} (AL r d) (λx u=>by
  obtain⟨_,_,_,_,_,_,_,q,_⟩:=h.hold Z hf u;unfold vI at q ⊢;exact q)
 rw[e1];simp only at e2 X ⊢;have E:∀i,i<d->(if d+1<5 then(J.from.set d (v+1)).set (d+1) 0 else J.from.set d (v+1)).getD i 0=J.from.getD i 0:=by
  intro i G;split;rw[uB,za (by omega),uB,za (by omega)];rw[uB,za (by omega)]
 have M:(if d+1<5 then(J.from.set d (v+1)).set (d+1) 0 else J.from.set d (v+1)).getD d 0=v+1:=by
  split;rw[uB,za (by omega),uB,zb ⟨rfl,by omega⟩];rw[uB,zb ⟨rfl,by omega⟩]
 have F:Q.map (·.rows)=Ts:=by
  rw[←h.stat.ja];refine mA λi=>?_;simp only[mo];rcases j:J.ja[i]? with _|s;have:J.ja.length<=i:=List.getElem?_eq_none_iff.1 j;rw[kM (by omega)];rw[X i s j];simp only[jC,zr];rcases (xn r d).lookup i with _|lv;rfl;simp only[setDown];split<;>rfl
 have e:jw r Ts Ns {J with ja:=Q,jd:=J.jd.set d v,«from»:=(if d+1<5 then(J.from.set d (v+1)).set (d+1) 0 else J.from.set d (v+1))}:=⟨h.stat.head,h.stat.vars,h.stat.jf,h.stat.jh,h.stat.last,h.stat.bars,F,by simpa using ab,by show(if d+1<5 then(J.from.set d (v+1)).set (d+1) 0 else J.from.set d (v+1)).length=5;split<;>simpa using U⟩;have t:∀l:zw,yv l (J.jd.set d v) d=yv l J.jd d:=λl=>tZ l λp w _=>by rw[uB,za (by omega)]
 have f:∀(i:Nat) (l:zw) (s b:yS),r.qc[i]?=some l->J.ja[i]?=some s->Q[i]?=some b->b.qi.length=3/\(∀k,k<=(yH l d).length->k<3->Sh b.rows 0 ((yv l J.jd d).take k)=some (b.qi.getD k 0))/\(Sh b.rows 0 (yv l J.jd d)).isSome=true/\(∀k,k<=(yH l (d+1)).length->k<3->Sh b.rows 0 ((yv l (J.jd.set d v) (d+1)).take k)=some (b.qi.getD k 0))/\(Sh b.rows 0 (yv l (J.jd.set d v) (d+1))).isSome=true:=by
  intro i l s b g j a;obtain⟨n1,R,Y⟩:=h.qi i l s g j;rw[X i s j] at a;by_cases H:zJ l d=true;have D:=SO g H;rw[Qp (AL r d) D] at a;simp only[zr] at a;obtain⟨l',s0,y,I,_,q4,q5,_,_,_,q9⟩:=h.hold Z hf D;simp only at y I q5;rw[g] at y;rw[j] at I;simp only[zr] at y I;subst y;subst I;have C:=hv _ D;obtain⟨bb,B⟩:=hX.1 C;have A:=q9 v;rw[B] at A;have w:yv l (J.jd.set d v) (d+1)=yv l J.jd d++[v]:=by rw[Eo l _ _ _ (by omega),zb H]
  have c:b.rows=s.rows:=by rw[←a];unfold setDown;split<;>rfl
  have O:(yv l J.jd d).length=(yH l d).length:=pp _ _ _;have K:∀k,k<=(yH l d).length->b.qi.getD k 0=s.qi.getD k 0:=by
   intro k o;rw[←a];unfold setDown;split;rfl;rw[uB,za (by omega)]
  have V:zH s.rows (s.qi.getD (yH l d).length 0) v=some bb:=by
   unfold j9 at B;simpa [List.getD,j] using B
  refine⟨by rw[←a];unfold setDown;split<;>simp[n1],λk o h3=>by rw[c,K k o];exact R k o h3,by rw[c];exact Y,λk o h3=>?_,by rw[c,w,A];rfl⟩;rw[c,w];rw[lE,zb H,yC,List.length_singleton] at o;by_cases N:k<=(yH l d).length;rw[List.take_append_of_le_length (by omega),K k N];exact R k N h3;have:k=(yH l d).length+1:=by omega
  subst this;rw[xk (by simp[O]),A,←a];unfold setDown;rw[za (by omega)];simp only;rw[uB,zb ⟨rfl,by omega⟩,V];rfl;have aa:∀lv,(i,lv)∉xn r d:=λlv D=>by
   obtain⟨l',y,I,_⟩:=Em D;rw[g] at y;simp only[zr] at y;subst y;exact H I
  rw[LQ aa] at a;simp only[zr] at a;subst a;have w:yv l (J.jd.set d v) (d+1)=yv l J.jd d:=by rw[Eo l _ _ _ (by omega),za H]
  have C:yH l (d+1)=yH l d:=by rw[lE,za H]
  exact⟨n1,R,Y,by rw[w,C];exact R,by rw[w];exact Y⟩
 have n:=fun(i:Nat) (l:zw) (b:yS) (g:r.qc[i]?=some l) (_:Q[i]?=some b)=>h.stat.some hf g;have L:∀x∈r.qw.zip Ns,uU x.1<=d->zG x.1 (J.jd.set d v)=zG x.1 J.jd:=λx _ o=>np x.1 λp w=>by
  have:=tI x.1 w;rw[uB,za (by omega)]
 refine⟨trivial,E,M,λh5=>?_,⟨e,λi l b g a=>?_,λx u o=>?_,λi G=>?_,λi G=>?_⟩,λhb=>⟨e,λi l b g a=>?_,λx u o=>?_,λi G=>?_,λi G=>?_⟩⟩;rw[zb h5,uB,zb ⟨rfl,by simp;omega⟩];obtain⟨s,j⟩:=n i l b g a;obtain⟨S,a2,a3,_,_⟩:=f i l s b g j a;exact⟨S,by rw[t];exact a2,by rw[t];exact a3⟩;show ut x.2 (zG x.1 (J.jd.set d v))=none;rw[L x u o];exact h.nob x u o;show(if d+1<5 then _ else _:List Nat).getD i 0=(J.jd.set d v).getD i 0+1;rw[E i G,uB,za (by omega)];exact h.from i G;show(J.jd.set d v).getD i 0<W;rw[uB,za (by omega)];exact h.small i G;obtain⟨s,j⟩:=n i l b g a;obtain⟨S,_,_,a4,a5⟩:=f i l s b g j a;exact⟨S,a4,a5⟩;show ut x.2 (zG x.1 (J.jd.set d v))=none;by_cases P:uU x.1<=d;rw[L x u P];exact h.nob x u P;rcases D:ut x.2 (zG x.1 (J.jd.set d v)) with _|m;rfl;have:=(wJ e (d+1)).2 ⟨x,u,by omega,by show(ut x.2 (zG x.1 (J.jd.set d v))).isSome=true;rw[D];rfl⟩;rw[hb] at this;cases this;show(if d+1<5 then _ else _:List Nat).getD i 0=(J.jd.set d v).getD i 0+1;by_cases z:i=d;subst z;rw[M,uB,zb ⟨rfl,by omega⟩];rw[E i (by omega),uB,za (by omega)];exact h.from i (by omega);show(J.jd.set d v).getD i 0<W;by_cases z:i=d;subst z;rw[uB,zb ⟨rfl,by omega⟩];exact hW;rw[uB,za (by omega)];exact h.small i (by omega)
end
section
variable {d W:Nat}{Ts Ns:List zj}
def PD(d:Nat)(vals:List Nat)(f:Nat)(y:List Nat):Prop:=(∀p,p<d->y.getD p 0=vals.getD p 0)/\f<=y.getD d 0∨∃i,i<d/\(∀p,p<i->y.getD p 0=vals.getD p 0)/\vals.getD i 0<y.getD i 0
def T5(r:zs)(Ts Ns:List zj)(E:zi->Prop)(d:Nat)(vals:List Nat)(f:Nat):Prop:=∀y,qW r Ts Ns y->E (zG r.head y)∨PD d vals f y
def Oy{l:zw}{e:Nat}(a:∀p,zJ l p=true->p<d)(c:d<=e):yH l e=yH l d:=by
 induction c with
 |refl=>rfl
 |@step m h b=>
  rw[lE,za (λq=>by have:=a _ q;have:d<=m:=h;omega),b]
def my(d:Nat)(vals y:List Nat):List Nat:=(List.range 5).map λp=>if p<d then vals.getD p 0 else y.getD p 0
def Aw(d:Nat)(vals y:List Nat){p:Nat}(a:p<5):(my d vals y).getD p 0=if p<d then vals.getD p 0 else y.getD p 0:=by
 simp[my,List.getD,a]
def Qb{T:zj}{a:Nat}{p q:zi}(h:(Sh T a (p++q)).isSome=true):(Sh T a p).isSome=true:=by
 rw[nE] at h;rcases b:Sh T a p with _|x;rw[b] at h;cases h;rfl
def SJ.mix{r:zs}{J:z7}(h:SJ r Ts Ns W J d)(k:dC r)(C:dH r Ts W)(E:d<=r.vars){y:List Nat}(o:qW r Ts Ns y)(w:∀p:Nat,(p:Int)<=xE r (d:Nat)->y.getD p 0=J.jd.getD p 0):qW r Ts Ns (my d J.jd y)/\zG r.head (my d J.jd y)=zG r.head y:=by
 obtain⟨_,_,D,A,B⟩:=sQ r (je:=(d:Nat)) (by omega);have z:=k.vars;have m:∀{l:zw},(∀p,zJ l p=true->p<r.vars)->(∀p,zJ l p=true->p<d)->∀p,zJ l p=true->(my d J.jd y).getD p 0=J.jd.getD p 0:=λg b p c=>by
  have:=g p c;rw[Aw d _ _ (by omega),zb (b p c)]
 have j:∀{l:zw},(∀p,zJ l p=true->p<r.vars)->(∀p,zJ l p=true->p<d->(p:Int)<=xE r (d:Nat))->∀p,zJ l p=true->(my d J.jd y).getD p 0=y.getD p 0:=λg b p c=>by
  have:=g p c;rw[Aw d _ _ (by omega)];split;rename_i t;exact(w p (b p c t)).symm;rfl
 refine⟨⟨λi l T g u=>⟨λq=>(o.1 i l T g u).1 q,λq=>?_⟩,λx n=>?_⟩,np _ (j k.head λp c b=>by have:=AA r.head (je:=((d:Nat):Int)) c (by omega);omega)⟩;have a:=gU g;rcases Fq (A l a) with b|b;obtain⟨s,v⟩:=h.stat.some C g;have f:=h.stat.side v;rw[u] at f;simp only[zr] at f;have e:yv l (my d J.jd y) 5=yv l J.jd d:=by
  rw[tZ l (y:=J.jd) λp _ c=>m (k.qc l a) b p c];unfold yv;rw[Oy b (by omega)]
 rw[e,f];exact(h.qi i l s g v).2.2;rw[tZ l (y:=y) λp _ c=>j (k.qc l a) b p c];exact(o.1 i l T g u).2 q;have a:=(List.of_mem_zip n).1;rcases Fq (B x.1 a) with b|b;rw[np x.1 (m (k.qw x.1 a) b)];exact h.nob x n (Gd x.1 b);rw[np x.1 (j (k.qw x.1 a) b)];exact o.2 x n
def SJ.sol{r:zs}{J:z7}(h:SJ r Ts Ns W J d)(b:dC r)(j:dH r Ts W)(w:d<r.vars){y:List Nat}(f:qW r Ts Ns y)(g:∀p,p<d->y.getD p 0=J.jd.getD p 0):∀x∈xn r d,(j9 J x (y.getD d 0)).isSome=true:=by
 intro x k;obtain⟨l,s,m,t,c,_,_,_,_,_,i⟩:=h.hold b j k;have o:=b.vars;have v:=h.stat.side t;have n:yZ l≠0:=by
  rw[fd];intro q;have:d∈yH l 5:=(p7 l 5 d).2 ⟨by omega,c⟩;rw[nf.1 q] at this;cases this
 have a:=(f.1 x.1 l s.rows m v).2 n;rw[←i];have e:yv l J.jd d++[y.getD d 0]=yv l y (d+1):=by
  have:yv l y d=yv l J.jd d:=tZ l λp u _=>g p u;unfold yv at this ⊢;rw[lE,zb c,vg,this];rfl
 rw[e,AB l y (show d+1<=5 by omega)];unfold un at a;rw[←jx (yH l (d+1)).length (yv l y 5)] at a;exact Qb a
def pP(W:Nat):Nat->Nat
 |0=>1
 |j+1=>W*(1+pP W j)+1
def fY(W vars d f:Nat):Nat:=(W-f)*(1+pP W (vars-d-1))+1
def gZ(W vars:Nat)(vals:List Nat):Nat->Nat
 |0=>0
 |d+1=>gZ W vars vals d+fY W vars d (vals.getD d 0+1)
def vy(W vars d:Nat)(vals:List Nat)(f:Nat):Nat:=gZ W vars vals d+if d<vars then fY W vars d f else 1
def Ek(W vars:Nat){x y:List Nat}:∀d,(∀p,p<d->x.getD p 0=y.getD p 0)->gZ W vars x d=gZ W vars y d
 |0,_=>rfl
 |d+1,h=>by simp only[gZ];rw[Ek W vars d (λp a=>h p (by omega)),h d (by omega)]
def IY(W vars:Nat)(vals:List Nat){a b:Nat}(h:a<=b):gZ W vars vals a<=gZ W vars vals b:=by
 induction h with
 |refl=>exact zf _
 |step h c=>simp only[gZ];omega
def PI{vars f v:Nat}{vals:List Nat}(a:d<vars)(e:d<vals.length)(k:f<=v)(l:v<W):vy W vars (d+1) (vals.set d v) 0<vy W vars d vals f/\vy W vars d (vals.set d v) (v+1)<vy W vars d vals f:=by
 have b:gZ W vars (vals.set d v) d=gZ W vars vals d:=Ek W vars d λp n=>by rw[uB,za (by omega)]
 have g:(vals.set d v).getD d 0=v:=by rw[uB,zb ⟨rfl,e⟩]
 have c:(if d+1<vars then fY W vars (d+1) 0 else 1)=pP W (vars-d-1):=by
  split;obtain⟨j,h⟩:∃j,vars-d-1=j+1:=⟨vars-d-2,by omega⟩;rw[h];unfold fY;rw[show vars-(d+1)-1=j by omega,Nat.sub_zero];rfl;rw[show vars-d-1=0 by omega];rfl
 have m:fY W vars d f=fY W vars d (v+1)+(v+1-f)*(1+pP W (vars-d-1)):=by
  unfold fY;rw[show W-f=(W-(v+1))+(v+1-f) by omega,lm];omega
 have i:1*(1+pP W (vars-d-1))<=(v+1-f)*(1+pP W (vars-d-1)):=dM _ (by omega);refine⟨?_,?_⟩;unfold vy;rw[zb a,c];simp only[gZ];rw[b,g];omega;unfold vy;rw[zb a,zb a,b];omega
def CL(W vars d:Nat)(vals:List Nat)(f:Nat):1<=vy W vars d vals f:=by
 unfold vy;split;unfold fY;omega;omega
def Fc{vars b f:Nat}{vals:List Nat}(g:d<=vars)(e:b<d):vy W vars b vals (vals.getD b 0+1)<vy W vars d vals f:=by
 have a:vy W vars b vals (vals.getD b 0+1)=gZ W vars vals (b+1):=by
  unfold vy;rw[zb (by omega)];rfl
 have h:=IY W vars vals (show b+1<=d by omega);have c:1<=if d<vars then fY W vars d f else 1:=by
  split;unfold fY;omega;omega
 rw[a];unfold vy;omega
def GF(r:zs)(Ts Ns:List zj)(W:Nat)(E:zi->Prop)(M:Nat)(a:z7):Bool->Prop
 |true=>SJ r Ts Ns W a r.vars/\T5 r Ts Ns E r.vars a.jd 0/\vy W r.vars r.vars a.jd 0<=M
 |false=>(∀y,qW r Ts Ns y->E (zG r.head y))/\jw r Ts Ns a
def jw.ok{r:zs}{Ts Ns:List zj}{W:Nat}{J:z7}(h:jw r Ts Ns J)(c:dH r Ts W):oa J:=by
 intro i;rcases b:J.ja[i]? with _|s;have:J.ja.getD i yS.zero=yS.zero:=by simp[List.getD,b]
 rw[this];intro a f;simp[yS.zero] at f;have:J.ja.getD i yS.zero=s:=by simp[List.getD,b]
 rw[this];have e:=h.side b;have j:i<r.qc.length:=by rw[←c.len];exact(kf.1 e).1
 obtain⟨⟨g,hinv⟩,_⟩:=(c.ok i _ _ (yi j) e).1;exact hinv.node
def Nw{r:zs}(F:dC r)(M:dH r Ts W)(E:zi->Prop)(A:Nat)(hA:W*(r.qc.length+1)+r.qc.length<=A):
  ∀(n:Nat) (J:z7) (d f:Nat),SJ r Ts Ns W J d->d<=r.vars->(d<r.vars->J.from.getD d 0=f)->T5 r Ts Ns E d J.jd f->vy W r.vars d J.jd f+A<n->∃K b,qS n J (d:Nat)=some (K,b)/\GF r Ts Ns W E (vy W r.vars d J.jd f) K b:=by
 intro n;induction n with
 |zero=>intro J d f _ _ _ _ h;omega
 |succ n ih=>
  intro J d f h hd aa hL hn;have aq:=F.vars;have al:=CL W r.vars d J.jd f;unfold qS;have Q:=h.stat.vars;by_cases g:d<r.vars;rw[zb ⟨by omega,by rw[Q];omega,by omega⟩];simp only[Int.toNat_natCast];have a:=h.stat.holdsAt (show d<5 by omega);have Z:J.jf.getD d []≠[]:=by
   rw[a];obtain⟨l,ah,af⟩:=F.safe d g;obtain⟨i,hi,rfl⟩:=uO ah;intro q;have:=SO (yi hi) af;rw[q] at this;cases this
  have ak:(xn r d).length<=r.qc.length:=by
   unfold xn;refine zZ (sA _ _) ?_;simp
  have an:W*((xn r d).length+1)+(xn r d).length<=A:=by
   have:W*((xn r d).length+1)<=W*(r.qc.length+1):=mL _ (by omega);omega
  obtain⟨D,ag,a1,a2,a3⟩:=MG W J d (J.from.getD d 0) n (by omega) (h.stat.ok M) Z (by
   rw[a];intro x z;obtain⟨_,_,_,_,_,_,_,q,_⟩:=h.hold F M z;exact q) (by
   rw[a];intro x z v X;obtain⟨l,s,_,u,_,_,_,_,_,q8,_⟩:=h.hold F M z;unfold j9 at X;obtain⟨b,C⟩:=hX.1 X;have:=(fg C).2;rw[show J.ja.getD x.1 yS.zero=s by simp[List.getD,u]] at this;omega) (by rw[a];omega)
  rw[a] at a3;rw[aa g] at a1 a3;rw[aa g,a1];have h1:=h.same a2;have j:D.jd=J.jd:=by rw[a2]
  have S:D.from=J.from:=by rw[a2]
  have T:=λx v=>GL a2 x v;rcases ag with _|v;simp only;have ad:D.jh.getD d 0=xE r (d:Nat):=by rw[h1.stat.jh];simp[List.getD,show d<5 by omega]
  rw[ad];obtain⟨b1,b2,b3,b4,b5⟩:=sQ r (je:=((d:Nat):Int)) (by omega);have G:∀y,qW r Ts Ns y->(∀p:Nat,(p:Int)<=xE r (d:Nat)->y.getD p 0=J.jd.getD p 0)->E (zG r.head y):=by
   intro y m ha;obtain⟨m1,m2⟩:=h.mix F M hd m ha;have I:∀p,p<d->(my d J.jd y).getD p 0=J.jd.getD p 0:=λp o=>by rw[Aw d _ _ (by omega),zb o]
   rw[←m2];rcases hL _ m1 with q|⟨_,q⟩|⟨i,k,_,N⟩;exact q;obtain⟨x,z,R⟩:=a3 _ q;have:=h.sol F M g m1 I x z;rw[R] at this;cases this;rw[I i k] at N;omega
  by_cases am:xE r (d:Nat)<0;have ai:xE r (d:Nat)=-1:=by omega
  rw[ai];rcases n with _|n;omega;refine⟨D,false,?_,?_,h1.stat⟩;unfold qS;rw[za (by omega)];have:¬((-1:Int)≥(D.vars:Int)):=by omega
  simp[this];intro y m;exact G y m λp o=>by omega
  obtain⟨b,C⟩:∃b:Nat,xE r (d:Nat)=(b:Int):=⟨(xE r (d:Nat)).toNat,by omega⟩;rw[C] at G b1 ⊢;have Y:b<d:=by omega
  have hM:=Fc (W:=W) (vars:=r.vars) (f:=f) (vals:=J.jd) hd Y;obtain⟨K,H,U,t⟩:=ih D b (J.jd.getD b 0+1) (h1.back (by omega)) (by omega) (λ_=>by rw[S,h.from b Y]) (by
   rw[j];intro y m;rcases hL y m with q|⟨k,u⟩|⟨i,k,u,N⟩;exact zh q;exact zh (G y m λp o=>k p (by omega));by_cases ap:i<=b;refine ze ?_;by_cases ab:i=b;subst ab;exact zh ⟨u,by omega⟩;exact ze ⟨i,by omega,u,N⟩;exact zh (G y m λp o=>u p (by omega))) (by rw[j];omega)
  refine⟨K,H,U,?_⟩;rw[j] at t;cases H;exact t;exact⟨t.1,t.2.1,by have:=t.2.2;omega⟩;simp only;obtain⟨c1,c2,c3⟩:=a3;have V:v<W:=by
   obtain⟨x,z⟩:=List.exists_mem_of_ne_nil _ (a ▸ Z);obtain⟨l,s,_,u,_,_,_,_,_,q8,_⟩:=h.hold F M z;have X:=c2 x z;unfold j9 at X;obtain⟨b,C⟩:=hX.1 X;have:=(fg C).2;rw[show J.ja.getD x.1 yS.zero=s by simp[List.getD,u]] at this;omega
  obtain⟨L,t2,t3,t4,t5,t6⟩:=h1.take F M g (v:=v) (λx z=>by rw[T];exact c2 x z) V;rw[j] at L;have ac:d<J.jd.length:=by rw[h.stat.vlen];omega
  obtain⟨m1,m2⟩:=PI (W:=W) (vars:=r.vars) (f:=f) (vals:=J.jd) g ac c1 V;have B:∀y,qW r Ts Ns y->(∀p,p<d->y.getD p 0=J.jd.getD p 0)->f<=y.getD d 0->v<=y.getD d 0:=by
   intro y m ha hq;false_or_by_contra
   rename_i ao;obtain⟨x,z,R⟩:=c3 (y.getD d 0) hq (by omega);have:=h.sol F M g m ha x z;rw[R] at this;cases this
  have c:∀p,p<d->(J.jd.set d v).getD p 0=J.jd.getD p 0:=λp o=>by rw[uB,za (by omega)]
  have w:(J.jd.set d v).getD d 0=v:=by rw[uB,zb ⟨rfl,ac⟩]
  by_cases C:uW (us D d v) (d+1)=true;rw[zb C];obtain⟨x,z,hk,hm⟩:=(wJ t5.stat (d+1)).1 C;rw[L] at hm;obtain⟨K,H,U,t⟩:=ih (us D d v) d (v+1) t5 hd (λ_=>t3) (by
   rw[L];intro y m;rcases hL y m with q|⟨k,u⟩|⟨i,k,u,N⟩;exact zh q;have aj:=B y m k u;by_cases P:y.getD d 0=v;have:=m.2 x z;rw[np x.1 (y:=J.jd.set d v) λp o=>?_] at this;rw[this] at hm;cases hm;have ar:=tI x.1 o;by_cases O:p=d;rw[O,w,P];rw[c p (by omega),k p (by omega)];exact ze (zh ⟨λp o=>by rw[c p o];exact k p o,by omega⟩);exact ze (ze ⟨i,k,λp o=>by rw[c p (by omega)];exact u p o,by rw[c i k];exact N⟩)) (by rw[L];omega)
  refine⟨K,H,U,?_⟩;rw[L] at t;cases H;exact t;exact⟨t.1,t.2.1,by have:=t.2.2;omega⟩;rw[za C];have C:uW (us D d v) (d+1)=false:=by simpa using C
  have e:((d:Nat):Int)+1=((d+1:Nat):Int):=by omega
  rw[e];obtain⟨K,H,U,t⟩:=ih (us D d v) (d+1) 0 (t6 C) (by omega) (λ_=>t4 (by omega)) (by
   rw[L];intro y m;rcases hL y m with q|⟨k,u⟩|⟨i,k,u,N⟩;exact zh q;have aj:=B y m k u;by_cases P:y.getD d 0=v;refine ze (zh ⟨λp o=>?_,zv _⟩);by_cases O:p=d;rw[O,w,P];rw[c p (by omega)];exact k p (by omega);exact ze (ze ⟨d,by omega,λp o=>by rw[c p o];exact k p o,by rw[w];omega⟩);exact ze (ze ⟨i,by omega,λp o=>by rw[c p (by omega)];exact u p o,by rw[c i k];exact N⟩)) (by rw[L];omega)
  refine⟨K,H,U,?_⟩;rw[L] at t;cases H;exact t;exact⟨t.1,t.2.1,by have:=t.2.2;omega⟩;have ae:d=r.vars:=by omega
  subst ae;rw[za (by rw[Q];omega)];refine⟨J,true,by simp[Q],h,?_,?_⟩;intro y m;rcases hL y m with q|⟨k,_⟩|q;exact zh q;exact ze (zh ⟨k,zv _⟩);exact ze (ze q);unfold vy;rw[za g,za g];exact zf _
end
def pn(r:zs)(a Ns:List zj)(W:Nat)(E:zi->Prop)(J:z7)(M:Nat):Prop:=
 J.ql=-1/\jw r a Ns J/\(∀y,qW r a Ns y->E (zG r.head y))∨(∀(i:Nat) (T:zj),a[i]?=some T->T.count≠0)/\∃(d f:Nat),J.ql=(d:Nat)/\d<=r.vars/\SJ r a Ns W J d/\(d<r.vars->J.from.getD d 0=f)/\T5 r a Ns E d J.jd f/\vy W r.vars d J.jd f<=M
def sM{d:Nat}(c:d≠0)(e:d<=3):xi d=d:=by unfold xi;by_cases b:d<1<;>by_cases a:d>3<;>simp[b,a]<;>omega
def wO.count{T:zj}{l:zw}{y:List Nat}(h:wO T l y)(f:vF T)(e:T.ql=xi (yZ l))(g:l.qg.length<=3):T.count≠0:=by
 by_cases a:yZ l=0;exact h.1 a;have b:=h.2 a;have d:=iQ l 5;rw[←fd] at d;have c:=(qB T _).2 ⟨by rw[pp,←fd,e,sM a (by omega)],b⟩;have:=nH c;rw[f.cnt] at this;omega
def mJ(r:zs)(qc qw:List zj):z7:={head:=r.head,vars:=r.vars,ja:=qc.map (λT=>⟨T,[0,0,0]⟩),bars:=(r.qw.zip qw).map (λx=>⟨x.1,uU x.1,x.2⟩),jf:=(List.range 5).map (xn r),jh:=(List.range 5).map (λp=>xE r (p:Nat)),last:=xE r r.vars,jd:=[0,0,0,0,0],«from»:=[0,0,0,0,0],ql:=if qc.any (λT=>T.count == 0) then -1 else 0,jg:=0}
def Ot(r:zs)(a Ns:List zj):xB r a Ns=if uW (mJ r a Ns) 0 then{mJ r a Ns with ql:=-1} else mJ r a Ns:=rfl
def Ay(r:zs)(a Ns:List zj):∃b,xB r a Ns={mJ r a Ns with ql:=b}/\b=if uW (xB r a Ns) 0=true then -1 else if a.any (λT=>T.count == 0)=true then -1 else 0:=by
 have d:∀b:Int,uW {mJ r a Ns with ql:=b} 0=uW (mJ r a Ns) 0:=λ_=>rfl;rw[Ot];by_cases c:uW (mJ r a Ns) 0=true;rw[zb c];exact⟨-1,rfl,by rw[d,zb c]⟩;rw[za c];exact⟨_,rfl,by rw[za c]⟩
def Jj(r:zs)(a Ns:List zj):jw r a Ns (xB r a Ns)/\(xB r a Ns).jd=[0,0,0,0,0]/\(xB r a Ns).from=[0,0,0,0,0]/\(xB r a Ns).ja=a.map (λT=>⟨T,[0,0,0]⟩):=by
 obtain⟨b,h,_⟩:=Ay r a Ns;rw[h];exact⟨⟨rfl,rfl,rfl,rfl,rfl,rfl,by simp[mJ,Function.comp_def],rfl,rfl⟩,rfl,rfl,rfl⟩
def IL{r:zs}{b Ns:List zj}{W:Nat}(F:dC r)(D:dH r b W)(E:zi->Prop):pn r b Ns W E (xB r b Ns) (vy W r.vars 0 [] 0):=by
 obtain⟨c,K,B,w⟩:=Jj r b Ns;have e:(∃(i:Nat) (T:zj),b[i]?=some T/\T.count=0)->∀y,¬qW r b Ns y:=by
  rintro⟨i,T,f,j⟩ y g;have o:i<r.qc.length:=by rw[←D.len];exact(kf.1 f).1
  have v:=yi o;obtain⟨H,G,_⟩:=D.ok i _ T v f;exact(g.1 i _ T v f).count H G (F.qg _ (gU v)) j
 have d:uW (xB r b Ns) 0=true->∀y,¬qW r b Ns y:=by
  intro h y g;obtain⟨x,z,q,u⟩:=(wJ c 0).1 h;have:=g.2 x z;rw[np x.1 (y:=(xB r b Ns).jd) λp n=>by have:=tI x.1 n;omega] at this;rw[this] at u;cases u
 have a:(xB r b Ns).ql=if uW (xB r b Ns) 0=true then -1 else if b.any (λT=>T.count == 0)=true then -1 else 0:=by
  obtain⟨J,f,j⟩:=Ay r b Ns;rw[←j,f]
 by_cases h:uW (xB r b Ns) 0=true;left;rw[zb h] at a;exact⟨a,c,λy g=>z9 g (d h y)⟩;rw[za h] at a;by_cases t:b.any (λT=>T.count == 0)=true;left;rw[zb t] at a;refine⟨a,c,λy g=>z9 g (e ?_ y)⟩;obtain⟨T,f,j⟩:=gi.1 t;obtain⟨i,o,rfl⟩:=uO f;exact⟨i,_,yi o,by simpa using j⟩;right;rw[za t] at a;refine⟨λi T C I=>t (gi.2 ⟨T,gU C,by simp[I]⟩),0,0,a,zv _,⟨c,λi l s v A=>?_,λx z q=>?_,λi o=>by omega,λi o=>by omega⟩,λ_=>by rw[B];rfl,λy _=>ze (zh ⟨λp n=>by omega,zv _⟩),?_⟩;rw[w] at A;simp only[mo,vK] at A;obtain⟨T,C,rfl⟩:=A;have n:yv l (xB r b Ns).jd 0=[]:=rfl;refine⟨rfl,λk q L=>?_,by rw[n];rfl⟩;have:k=0:=by simp[yH] at q;exact q
 subst this;rw[n];rfl;rcases u:ut x.2 (zG x.1 (xB r b Ns).jd) with _|m;rfl;exact z9 ((wJ c 0).2 ⟨x,z,by omega,by rw[u];rfl⟩) h;unfold vy;exact zf _
def Pc{r:zs}{v Ns:List zj}{W:Nat}(z:dC r)(Y:dH r v W)(E:zi->Prop)(A:Nat)(hA:W*(r.qc.length+1)+r.qc.length<=A)(n:Nat)(J:z7)(M:Nat)(h:pn r v Ns W E J M)(hn:M+A+1<n):
  ∃c b,fB n J=some (c,b)/\(b=false->∀y,qW r v Ns y->E (zG r.head y))/\(b=true->qW r v Ns c.jd/\c.head=r.head/\∃N,N<M/\pn r v Ns W (λx=>E x∨x=zG r.head c.jd) c N):=by
 unfold fB;rcases h with⟨F,L,H⟩|⟨t,d,f,F,L,H,h4,h5,h6⟩
 rw[F];obtain⟨k,rfl⟩:∃k,n=k+1:=⟨n-1,by omega⟩;refine⟨{J with ql:=-1},false,?_,λ_=>H,λq=>by cases q⟩;unfold qS;have:¬((-1:Int)≥(J.vars:Int)):=by omega
 simp[this];rw[F];obtain⟨c,b,s1,U⟩:=Nw z Y E A hA n J d f H L h4 h5 (by omega);rw[s1];simp only;cases b;exact⟨_,false,rfl,λ_=>U.1,λq=>by cases q⟩;obtain⟨e,t2,t3⟩:=U;have G:=z.vars;have D:qW r v Ns c.jd:=by
  refine⟨λi l T K V=>⟨λ_=>t i T V,λ_=>?_⟩,λx O=>?_⟩;obtain⟨s,P⟩:=e.stat.some Y K;have j:=e.stat.side P;rw[V] at j;simp only[zr] at j;rw[OP G (z.qc l (gU K)),j];exact(e.qi i l s K P).2.2;exact e.nob x O (Gd x.1 (z.qw x.1 (List.of_mem_zip O).1))
 refine⟨_,true,rfl,λq=>(by cases q),λ_=>⟨D,e.stat.head,?_⟩⟩;obtain⟨b1,b2,b3,_,_⟩:=sQ r (je:=((r.vars:Nat):Int)) (by omega);have m:=e.stat.last;have u:∀y,(∀p:Nat,(p:Int)<=xE r (r.vars:Nat)->y.getD p 0=c.jd.getD p 0)->zG r.head y=zG r.head c.jd:=λy Z=>np r.head λp w=>Z p (by
  have F:=z.head p w;have:=AA r.head (je:=((r.vars:Nat):Int)) w (by omega);omega)
 have g:jw r v Ns {c with ql:=c.last}:=⟨e.stat.head,e.stat.vars,e.stat.jf,e.stat.jh,e.stat.last,e.stat.bars,e.stat.ja,e.stat.vlen,e.stat.flen⟩;have R:=CL W r.vars d J.jd f;by_cases X:xE r (r.vars:Nat)<0;refine⟨M-1,by omega,zh ⟨by show c.last=-1;rw[m];omega,g,λy Q=>?_⟩⟩;exact ze (u y λp w=>by omega);obtain⟨o,hb⟩:∃b:Nat,xE r (r.vars:Nat)=(b:Int):=⟨(xE r (r.vars:Nat)).toNat,by omega⟩;have C:o<r.vars:=by omega
 have hM:=Fc (W:=W) (vars:=r.vars) (f:=0) (vals:=c.jd) (zf _) C;have a:=e.back (b:=o) (by omega);refine⟨vy W r.vars o c.jd (c.jd.getD o 0+1),by omega,ze ⟨t,o,c.jd.getD o 0+1,by show c.last=_;rw[m,hb],by omega,⟨g,a.qi,a.nob,a.from,a.small⟩,λ_=>e.from o C,λy Q=>?_,zf _⟩⟩;rcases t2 y Q with q|⟨S,_⟩|⟨i,S,I,q3⟩;exact zh (zh q);exact zh (ze (u y λp w=>S p (by omega)));by_cases aa:i<=o;refine ze ?_;by_cases B:i=o;subst B;exact zh ⟨I,by omega⟩;exact ze ⟨i,by omega,I,q3⟩;exact zh (ze (u y λp w=>I p (by omega)))
section
variable {l:zw}{a W:Nat}
structure qo (l:zw) (a W:Nat):Prop where
 len:l.qg.length=a
 le3:a<=3
 lev:∀t∈l.qg,t.var=true->t.num<5/\yV l t.num=some t.level
 con:∀t∈l.qg,t.var=false->t.num<W
def RK(a:Nat)(row:zi):Prop:=row.length=3/\∀i,a<=i->row.getD i 0=0
def sE(l:zw)(y:List Nat){i:Nat}(b:i<3):(zG l y).getD i 0=R0 l y i:=by
 match i,b with
 |0,_=>rfl
 |1,_=>rfl
 |2,_=>rfl
def tw(h:qo l a W)(y:List Nat):RK a (zG l y):=by
 refine⟨rfl,λi c=>?_⟩;by_cases b:i<3;rw[sE l y b];unfold R0;rw[za (by rw[h.len];omega)];simp[List.getD,zG];rw[kM (by simp;omega)];rfl
def FA{x y:zi}(b:RK a x)(d:RK a y)(h:∀i,i<a->i<3->x.getD i 0=y.getD i 0):x=y:=by
 refine j7 (by rw[b.1,d.1]) λi c g=>?_;have e:x.getD i 0=y.getD i 0:=by
  by_cases f:i<a;exact h i f (by rw[b.1] at c;exact c);rw[b.2 i (by omega),d.2 i (by omega)]
 simpa [List.getD,c,g] using e
def Gy{p d:Nat}(c:zJ l p=true)(e:p<d):(yH l d)[(yH l p).length]?=some p:=by
 obtain⟨t,b⟩:=iz l (show p+1<=d by omega);rw[←b,lE,zb c];simp
def wR{p j:Nat}(h:yV l p=some j)(b:p<5):(yH l 5)[j]?=some p:=by
 rw[oT] at h;split at h;rename_i c;simp only[zr] at h;subst h;exact Gy c b;cases h
def oD{p j:Nat}(h:yV l p=some j)(b:p<5):j<yZ l:=by
 have:=wR h b;rw[fd];exact(kf.1 this).1
def iv(h:qo l a W):yZ l<=3:=by
 have:=iQ l 5;rw[fd];have:=h.len;have:=h.le3;omega
def qo.leveled{l:zw}{a W:Nat}(h:qo l a W){t:yd}(b:t∈l.qg):leveled t=t.var:=by
 unfold Go.Proofs.YteampbddflhngaaGreat.leveled;cases d:t.var;rfl;obtain⟨e,c⟩:=h.lev t b d;have:=oD c e;have:=iv h;simp;omega
def pH(l:zw)(row f:zi)(i:Nat):(qO l row f i).length=f.length:=by unfold qO;split<;>simp
def rG(l:zw)(row:zi):(uz l row).length=3:=by unfold uz;rw[pH,pH,pH];rfl
def iq{row:zi}{g:Nat->Nat}(v:∀i (d:i<l.qg.length),leveled l.qg[i]=true->row.getD i 0=g l.qg[i].level){f:zi}{m:Nat}(t:f.length=3)
  (u:∀j,j<3->(f.getD j 0=g j∨f.getD j 0=0)/\((∃i,∃d:i<l.qg.length,i<m/\leveled l.qg[i]=true/\l.qg[i].level=j)->f.getD j 0=g j)/\((¬∃i,∃d:i<l.qg.length,leveled l.qg[i]=true/\l.qg[i].level=j)->f.getD j 0=0)):
  ∀j,j<3->((qO l row f m).getD j 0=g j∨(qO l row f m).getD j 0=0)/\((∃i,∃d:i<l.qg.length,i<m+1/\leveled l.qg[i]=true/\l.qg[i].level=j)->(qO l row f m).getD j 0=g j)/\((¬∃i,∃d:i<l.qg.length,leveled l.qg[i]=true/\l.qg[i].level=j)->(qO l row f m).getD j 0=0):=by
 intro j s;obtain⟨r,p,o⟩:=u j s;unfold qO;by_cases c:m<l.qg.length/\leveled (l.qg.getD m ⟨false,0,0⟩)=true;rw[zb c];have e:l.qg.getD m ⟨false,0,0⟩=l.qg[m]'c.1:=by simp[List.getD,c.1]
 rw[e] at c ⊢;rw[uB];by_cases b:l.qg[m].level=j/\l.qg[m].level<f.length;rw[zb b];have:=v m c.1 c.2;rw[b.1] at this;exact⟨zh this,λ_=>this,λq=>z9 ⟨m,c.1,c.2,b.1⟩ q⟩;rw[za b];refine⟨r,?_,o⟩;rintro⟨i,d,w,n,k⟩;by_cases h:i=m;subst h;exact z9 ⟨k,by rw[k,t];exact s⟩ b;exact p ⟨i,d,by omega,n,k⟩;rw[za c];refine⟨r,?_,o⟩;rintro⟨i,d,w,n,k⟩;by_cases h:i=m;subst h;exact z9 ⟨d,by simpa [List.getD,d] using n⟩ c;exact p ⟨i,d,by omega,n,k⟩
def Lq(h:qo l a W){row:zi}{g:Nat->Nat}(c:∀i (b:i<l.qg.length),leveled l.qg[i]=true->row.getD i 0=g l.qg[i].level)(j:Nat)(d:j<3):((∃i,∃b:i<l.qg.length,leveled l.qg[i]=true/\l.qg[i].level=j)->(uz l row).getD j 0=g j)/\((¬∃i,∃b:i<l.qg.length,leveled l.qg[i]=true/\l.qg[i].level=j)->(uz l row).getD j 0=0):=by
 have r:∀j,j<3->((([0,0,0]:zi).getD j 0=g j∨([0,0,0]:zi).getD j 0=0)/\((∃i,∃b:i<l.qg.length,i<0/\leveled l.qg[i]=true/\l.qg[i].level=j)->([0,0,0]:zi).getD j 0=g j)/\((¬∃i,∃b:i<l.qg.length,leveled l.qg[i]=true/\l.qg[i].level=j)->([0,0,0]:zi).getD j 0=0)):=by
  intro j d;have e:([0,0,0]:zi).getD j 0=0:=by
   match j,d with
   |0,_=>rfl
   |1,_=>rfl
   |2,_=>rfl
  exact⟨ze e,fun⟨i,_,q,_⟩=>by omega,λ_=>e⟩
 have p:=iq c rfl r;have s:=iq c (by rw[pH];rfl) p;have n:=iq c (by rw[pH,pH];rfl) s;obtain⟨_,o,k⟩:=n j d;refine⟨fun⟨i,b,m,f⟩=>o ⟨i,b,?_,m,f⟩,k⟩;have:=h.len;have:=h.le3;omega
def AH(h:qo l a W){row f:zi}:xO l row=some f↔f=uz l row/\∀i (b:i<l.qg.length),jO l.qg[i] (row.getD i 0) (uz l row)=true:=by
 have c:(xJ l row (uz l row) 0&&xJ l row (uz l row) 1&&xJ l row (uz l row) 2)=true↔∀i (b:i<l.qg.length),jO l.qg[i] (row.getD i 0) (uz l row)=true:=by
  have e:∀i,xJ l row (uz l row) i=true↔∀b:i<l.qg.length,jO l.qg[i] (row.getD i 0) (uz l row)=true:=by
   intro i;unfold xJ;simp only[fu,decide_eq_true_eq];constructor;rintro(q|q) b;omega;simpa [List.getD,b] using q;intro q;by_cases b:i<l.qg.length;exact ze (by simpa [List.getD,b] using q b);exact zh (by omega)
  simp only[uG,e];constructor;rintro⟨⟨m,k⟩,j⟩ i b;have:=h.len;have:=h.le3;have g:i=0∨i=1∨i=2:=by omega
  rcases g with rfl|rfl|rfl;exact m b;exact k b;exact j b;intro q;exact⟨⟨λb=>q 0 b,λb=>q 1 b⟩,λb=>q 2 b⟩
 unfold xO;by_cases d:(xJ l row (uz l row) 0&&xJ l row (uz l row) 1&&xJ l row (uz l row) 2)=true;rw[zb d];simp only[zr];exact⟨λq=>⟨q.symm,c.1 d⟩,λq=>q.1.symm⟩;rw[za d];constructor;intro q;cases q;intro q;exact z9 (c.2 q.2) d
def KO{l:List Nat}(h:l.Nodup){i j:Nat}(d:i<l.length)(c:j<l.length)(e:l[i]=l[j]):i=j:=by
 have b:=nT.1 h;rcases pg i j with q|q|q;exact z9 e (b i j d c q);exact q;exact z9 e.symm (b j i c d q)
def Qf(h:qo l a W)(y:List Nat):∃f,xO l (zG l y)=some f/\f.length=3/\f.take (yZ l)=yv l y 5/\∀j,yZ l<=j->f.getD j 0=0:=by
 have q:∀i (b:i<l.qg.length),(zG l y).getD i 0=SG l.qg[i] y:=λi b=>by
  have:=h.len;have:=h.le3;rw[sE l y (by omega)];unfold R0;simp[List.getD,b]
 have w:∀i (b:i<l.qg.length),leveled l.qg[i]=true->(zG l y).getD i 0=(yv l y 5).getD l.qg[i].level 0:=λi b c=>by
  have n:=zt b;rw[h.leveled n] at c;obtain⟨r,m⟩:=h.lev _ n c;rw[q i b];unfold SG;rw[zb (by simp[c,r])];have:=wR m r;unfold yv;simp[List.getD,this]
 have s:=λj d=>Lq h (row:=zG l y) (g:=λj=>(yv l y 5).getD j 0) w j d;have p:∀i (b:i<l.qg.length),leveled l.qg[i]=true->l.qg[i].level<yZ l:=λi b c=>by
  have n:=zt b;rw[h.leveled n] at c;obtain⟨r,m⟩:=h.lev _ n c;exact oD m r
 have E:=iv h;have o:∀j,yZ l<=j->(uz l (zG l y)).getD j 0=0:=λj d=>by
  by_cases G:j<3;exact(s j G).2 fun⟨i,b,H,J⟩=>by have:=p i b H;omega
  have:=rG l (zG l y);simp[List.getD,List.getElem?_eq_none (show(uz l (zG l y)).length<=j by omega)]
 have k:∀j,j<yZ l->(uz l (zG l y)).getD j 0=(yv l y 5).getD j 0:=λj d=>by
  refine(s j (by omega)).1 ?_;rw[fd] at d;have F:=zt d;obtain⟨I,C⟩:=(p7 l 5 _).1 F;obtain⟨t,v,x,D⟩:=(gS l _).1 C;obtain⟨i,b,rfl⟩:=uO v;refine⟨i,b,by rw[h.leveled v];exact x,?_⟩;obtain⟨A,B⟩:=h.lev _ v x;have:=wR B A;rw[D] at this;obtain⟨z,e⟩:=kf.1 this;exact KO (List.nodup_range.filter _:(yH l 5).Nodup) z d e
 refine⟨uz l (zG l y),(AH h).2 ⟨rfl,λi b=>?_⟩,rG _ _,?_,o⟩;unfold jO;have n:=zt b;cases c:leveled l.qg[i];rw[za (by simp),q i b];rw[h.leveled n] at c;unfold SG;rw[za (by simp[c])];simp;rw[zb rfl,k _ (p i b c),w i b c];simp;refine j7 (by rw[qG,rG,pp,←fd];omega) λj r m=>?_;have d:j<yZ l:=by rw[pp,←fd] at m;exact m
 have:=k j d;have u:j<(uz l (zG l y)).length:=by rw[rG];omega
 simp only[List.getD,yi u,yi m,uL] at this;rw[List.getElem_take];exact this
def Fb(h:qo l a W){row f:zi}(r:RK a row)(q:xO l row=some f)(y:List Nat)(p:f.take (yZ l)=yv l y 5):row=zG l y:=by
 obtain⟨rfl,m⟩:=(AH h).1 q;refine FA r (tw h y) λi t s=>?_;have c:i<l.qg.length:=by rw[h.len];exact t
 have b:=zt c;have d:=m i c;rw[sE l y s];unfold R0;rw[zb c,show l.qg.getD i ⟨false,0,0⟩=l.qg[i] by simp[List.getD,c]];unfold jO at d;unfold SG;cases g:leveled l.qg[i];rw[g,za (by simp)] at d;rw[h.leveled b] at g;rw[za (by simp[g])];exact(by simpa using d:l.qg[i].num=row.getD i 0).symm;rw[g,zb rfl] at d;rw[h.leveled b] at g;obtain⟨k,o⟩:=h.lev _ b g;rw[zb (by simp[g,k])];have j:=oD o k;have n:=wR o k;have e:(uz l row).getD l.qg[i].level 0=((uz l row).take (yZ l)).getD l.qg[i].level 0:=by
  simp[List.getD,j]
 rw[e,p] at d;unfold yv at d;simp only[List.getD,mo,n,jC,uL,beq_iff_eq] at d;exact d.symm
end
section
variable {W:Nat}{l:zw}{T:zj}
def RZ(W:Nat)(row:zi):Prop:=∀v∈row,v<W
def PT{row:zi}(h:RZ W row)(b:0<W)(i:Nat):row.getD i 0<W:=by
 by_cases a:i<row.length;rw[show row.getD i 0=row[i] by simp[List.getD,a]];exact h _ (zt a);rw[show row.getD i 0=0 by simp[List.getD,a]];exact b
def eM{row f:zi}(c:0<W)(d:RZ W row)(a:RZ W f)(i:Nat):RZ W (qO l row f i):=by
 unfold qO;split;intro v b;rcases lz b with q|q;exact a v q;rw[q];exact PT d c i;exact a
def Pv{row f:zi}(c:0<W)(b:RZ W row)(a:xO l row=some f):f.length=3/\RZ W f:=by
 unfold xO at a;split at a;simp only[zr] at a;rw[←a];refine⟨rG l row,?_⟩;unfold uz;have d:RZ W [0,0,0]:=by intro v e;simp at e;omega
 exact eM c b (eM c b (eM c b d 0) 1) 2;cases a
def BF(T:zj)(row:zi):ln T row=true↔RZ T.qf row:=by simp[ln,RZ]
def ix:∀(rs:List zi) (T:zj),vF T->(∀r∈rs,r.length=3/\RZ T.qf r)->T.count+rs.length<=9000000->∃a,xK rs T=some a/\vF a/\a.qf=T.qf/\a.ql=T.ql/\a.count<=T.count+rs.length/\∀k,k.length=T.ql->((un a k).isSome=true↔(un T k).isSome=true∨∃r∈rs,r.take T.ql=k)
 |[],T,h,_,_=>⟨T,rfl,h,rfl,rfl,by simp,λk _=>by simp⟩
 |r::rs,T,h,j,z=>by
  simp only[xr] at z;obtain⟨w,s⟩:=j r (by simp);obtain⟨o,g,d,D,y,B,C⟩:=h.add r 0 w ((BF T r).2 s);have m:(yx T r 0).1.count<=T.count+1:=by
   cases i:(yx T r 0).2 with
   |false=>rw[y i];omega
   |true=>rw[B i];exact zf _
  obtain⟨a,p,n,A,t,E,u⟩:=ix rs (yx T r 0).1 o (λx v=>by rw[g];exact j x (by simp[v])) (by omega);unfold xK;rw[zb (h.okT (by omega))];refine⟨a,p,n,by rw[A,g],by rw[t,d],by simp only[xr];omega,λk f=>?_⟩;rw[u k (by rw[d];exact f),C k f,d];by_cases e:k=r.take T.ql
  .subst e;simp
  .rw[za e];constructor
   .rintro(q|⟨x,b,c⟩)
    .exact zh q
    .exact ze ⟨x,by simp[b],c⟩
   .rintro(q|⟨x,b,c⟩)
    .exact zh q
    .rcases zy.1 b with rfl|b
     .exact z9 c.symm e
     .exact ze ⟨x,b,c⟩
structure ve (T:zj) (l:zw) (W:Nat) (P:zi->Prop):Prop where
 ok:vF T
 qf:T.qf=W
 ql:T.ql=xi (yZ l)
 sem:∀k,k.length=T.ql->((un T k).isSome=true↔∃row f,P row/\xO l row=some f/\f.take T.ql=k)
def ve.congr{P Q:zi->Prop}(h:ve T l W P)(e:∀x,P x↔Q x):ve T l W Q:=
 ⟨h.ok,h.qf,h.ql,λk a=>by rw[h.sem k a];exact⟨fun⟨r,f,q⟩=>⟨r,f,(e r).1 q.1,q.2⟩,fun⟨r,f,q⟩=>⟨r,f,(e r).2 q.1,q.2⟩⟩⟩
def ve.new(l:zw)(w W:Nat)(b:W=zL w):ve (xd w (yZ l)) l W (λ_=>False):=by
 refine⟨vF.new _ _,by rw[Dx,b],pT _ _,λk a=>?_⟩;constructor;intro q;rw[eb _ _ k (by rintro rfl;have:=(lh (yZ l)).1;rw[pT] at a;simp at a;omega)] at q;cases q;rintro⟨_,_,q,_⟩;exact q.elim
def ve.adds{P:zi->Prop}(h:ve T l W P)(u:0<W)(a:List zi)(hs:∀r∈a,RZ W r)(w:T.count+a.length<=9000000):∃d,xK (a.filterMap (xO l)) T=some d/\ve d l W (λx=>P x∨x∈a)/\d.count<=T.count+a.length:=by
 have n:(a.filterMap (xO l)).length<=a.length:=sA _ _;obtain⟨d,s,t,q,j,v,o⟩:=ix (a.filterMap (xO l)) T h.ok (λr p=>by
  obtain⟨x,m,i⟩:=lL.1 p;rw[h.qf];exact Pv u (hs x m) i) (by omega)
 refine⟨d,s,⟨t,by rw[q,h.qf],by rw[j,h.ql],λk g=>?_⟩,by omega⟩;rw[j] at g;rw[o k g,h.sem k g,j];constructor;rintro(⟨r,f,b,c,e⟩|⟨f,b,c⟩);exact⟨r,f,zh b,c,e⟩;obtain⟨x,m,i⟩:=lL.1 b;exact⟨x,f,ze m,i,c⟩;rintro⟨r,f,b|b,c,e⟩;exact zh ⟨r,f,b,c,e⟩;exact ze ⟨f,lL.2 ⟨r,b,c⟩,e⟩
def D3{k:zi}{d:Nat}(h:k.length=d)(a:d<=3):(S1 k d).length=3:=by simp[S1,h];omega
def rQ{k:zi}{d:Nat}(h:k.length=d):(S1 k d).take d=k:=by simp[S1,←h]
def Cx{k:zi}{d:Nat}(b:0<W)(h:RZ W k):RZ W (S1 k d):=by
 intro v a;unfold S1 at a;rcases zW.1 a with q|q;exact h v q;have:=dT q;simp at this;omega
def ve.join{U:zj}{P Q:zi->Prop}(h:ve T l W P)(k:ve U l W Q)(s:0<W)(E:T.count+U.count<=9000000):∃c,xK ((RV U).map λx=>S1 x U.ql) T=some c/\ve c l W (λx=>P x∨Q x)/\c.count<=T.count+U.count:=by
 have e:U.ql=T.ql:=by rw[h.ql,k.ql]
 have u:T.ql<=3:=by rw[h.ql];exact(lh _).2
 obtain⟨c,n,p,o,j,B,D⟩:=ix ((RV U).map λx=>S1 x U.ql) T h.ok (λr z=>by
  obtain⟨x,g,rfl⟩:=zE.1 z;obtain⟨b,a⟩:=(qB U x).1 g;refine⟨D3 b (by omega),?_⟩;rw[h.qf];refine Cx s ?_;intro v w;have:=wD x 0 a v w;rw[k.qf] at this;exact this) (by simp[k.ok.cnt];omega)
 refine⟨c,n,⟨p,by rw[o,h.qf],by rw[j,h.ql],λy i=>?_⟩,by simpa [k.ok.cnt] using B⟩;rw[j] at i;rw[D y i,h.sem y i,j];constructor;rintro(⟨r,f,b,a,d⟩|⟨r,b,a⟩);exact⟨r,f,zh b,a,d⟩;obtain⟨x,g,rfl⟩:=zE.1 b;obtain⟨m,A⟩:=(qB U x).1 g;rw[←e,rQ m] at a;subst a;obtain⟨r,f,q,C,t⟩:=(k.sem x m).1 A;exact⟨r,f,ze q,C,by rw[←e];exact t⟩;rintro⟨r,f,b|b,a,d⟩;exact zh ⟨r,f,b,a,d⟩;refine ze ⟨S1 y U.ql,zE.2 ⟨y,(qB U y).2 ⟨by omega,(k.sem y (by omega)).2 ⟨r,f,b,a,by rw[e];exact d⟩⟩,rfl⟩,?_⟩;rw[←e,rQ (by omega)]
def ve.sat{a C:Nat}{P:zi->Prop}(h:ve T l W P)(j:qo l a C)(w:∀x,P x->RK a x)(y:List Nat):wO T l y↔P (zG l y):=by
 obtain⟨f,u,v,A,G⟩:=Qf j y;have n:=iv j;by_cases b:yZ l=0;have e:T.ql=1:=by rw[h.ql,b];rfl
 have B:yv l y 5=[]:=nf.1 (by rw[pp,←fd];exact b);constructor;intro o;have s:=o.1 b;rw[←h.ok.cnt] at s;obtain⟨k,z⟩:=List.exists_mem_of_length_pos (Nat.pos_of_ne_zero s);obtain⟨F,E⟩:=(qB T k).1 z;obtain⟨r,g,d,p,m⟩:=(h.sem k F).1 E;have:=Fb j (w r d) p y (by rw[b,B];rfl);rw[←this];exact d;intro c;refine⟨λ_ s=>?_,λq=>z9 b q⟩;have:(un T (f.take T.ql)).isSome=true:=(h.sem _ (by rw[qG,v,e];rfl)).2 ⟨_,f,c,u,rfl⟩;have D:=(qB T _).2 ⟨by rw[qG,v,e];rfl,this⟩;have:=nH D;rw[h.ok.cnt] at this;omega;have t:T.ql=yZ l:=by rw[h.ql,sM b n]
 have i:(yv l y 5).length=T.ql:=by rw[pp,←fd,t]
 constructor;intro o;obtain⟨r,g,d,p,m⟩:=(h.sem _ i).1 (o.2 b);rw[t] at m;have:=Fb j (w r d) p y m;rw[←this];exact d;intro c;exact⟨λq=>z9 q b,λ_=>(h.sem _ i).2 ⟨_,f,c,u,by rw[t];exact A⟩⟩
structure nw (V:yF) (l:zw) (W:Nat) (P0 P1:zi->Prop) (Pf:zi->Prop) (c:Nat):Prop where
 lit:V.lit=l
 before:ve V.before l W P0
 qp:ve V.qp l W Pf
 all:ve V.all l W P1
 few:V.before.count+V.qp.count<=c/\V.all.count<=c
def FB{V:yF}{w:Nat}{i m k:zi->Prop}{c:Nat}(h:nw V l W i m k c)(j:W=zL w)(d:List zi)(hs:∀r∈d,RZ W r)(D:c+d.length<=1048576)(e:Nat)(y:3*(W+1)<=e):∃n,dU e w V d=some n/\nw n l W (λx=>i x∨k x) (λx=>m x∨x∈d) (λx=>x∈d) (c+d.length):=by
 have g:0<W:=by rw[j];unfold zL;split<;>omega
 have u:=h.qp.ok.rowsG e (by rw[h.qp.qf];exact y) (by have:=h.few.1;omega);obtain⟨b,q,o,E⟩:=h.before.join h.qp g (by have:=h.few.1;omega);obtain⟨f,t,v,F⟩:=(ve.new l w W j).adds g d hs (by simp[xd,y7];omega);obtain⟨a,p,s,z⟩:=h.all.adds g d hs (by have:=h.few.2;omega);refine⟨{V with before:=b,qp:=f,all:=a},?_,h.lit,o,v.congr (λx=>by simp),s,?_⟩;unfold dU;rw[u,h.lit];simp only[q,t,p];have B:=h.few.1;have A:=h.few.2;have C:(xd w (yZ l)).count=0:=rfl;simp only;omega
end
section
open Classical
abbrev DB:=Nat->zi->Option Nat
noncomputable def zxx(ar:List Nat)(R:zu):DB:=λp row=>if p<ar.length/\RK (ar.getD p 0) row then ut (R.rows.getD p zj.zero) row else none
structure qv (ar:List Nat) (W:Nat) (R:zu):Prop where
 len:R.rows.length=ar.length
 tries:∀p (hp:p<R.rows.length),vF R.rows[p]/\R.rows[p].qf=W/\R.rows[p].ql=xi (ar.getD p 0)/\∀k∈RV R.rows[p],RK (ar.getD p 0) (S1 k R.rows[p].ql)
 cnt:R.count=(R.rows.map (·.count)).sum
def KS(l:List zj):∀(p:Nat) (T:zj) (b:p<l.length),((l.set p T).map (·.count)).sum+l[p].count=(l.map (·.count)).sum+T.count:=by
 induction l with
 |nil=>intro p T b;simp at b
 |cons a l c=>
  intro p T b;rcases p with _|p;simp;omega;have:=c p T (by simpa using b);simp at this ⊢;omega
def tQ(l:List zj):∀(p:Nat) (b:p<l.length),l[p].count<=(l.map (·.count)).sum:=by
 induction l with
 |nil=>intro p b;simp at b
 |cons a l c=>
  intro p b;rcases p with _|p;simp;have:=c p (by simpa using b);simp at this ⊢;omega
def O3{a:Nat}(c:a<=3){x y:zi}(d:RK a x)(b:RK a y)(e:x.take (xi a)=y.take (xi a)):x=y:=by
 refine FA d b λi g h=>?_;have f:i<xi a:=by rw[sM (by omega) c];exact g
 have:=congrArg (λl=>l.getD i 0) e;simpa [List.getD,List.getElem?_take,f] using this
def Gn{a:Nat}(g:a<=3){x:zi}(d:RK a x):S1 (x.take (xi a)) (xi a)=x:=by
 have m:a<=xi a:=by
  by_cases h:a=0;omega;rw[sM h g];exact zf _
 show x.take (xi a)++([0,0,0]:zi).drop (xi a)=x;have b:=d.1;refine j7 (by simp[b];omega) λi o n=>?_;have k:=λi (l:xi a<=i)=>d.2 i (by omega);by_cases l:i<xi a;rw[uD (by simp[b];omega)];simp;rw[l5 (by simp;omega)];have f:x[i]=0:=by have:=k i (by omega);simpa [List.getD,n] using this
 rw[f];simp only[List.getElem_drop];have:∀j (e:j<([0,0,0]:List Nat).length),([0,0,0]:List Nat)[j]=0:=by
  intro j e;have c:j=0∨j=1∨j=2:=by simp at e;omega
  rcases c with rfl|rfl|rfl<;>rfl
 exact this _ _
structure Sv (ar:List Nat) (W k:Nat) (D0:DB) (c0:List Nat) (R:zu):Prop where
 inv:qv ar W R
 qx:R.qx=k
 flen:R.qp.length=ar.length
 qp:∀p (hp:p<R.qp.length),R.qp[p].Nodup/\∀row∈R.qp[p],RK (ar.getD p 0) row/\RZ W row/\D0 p row=none
 abs:∀p row,zxx ar R p row=match D0 p row with
  |some m=>some m
  |none=>if row∈R.qp.getD p [] then some k else none
 cnts:∀p (hp:p<R.rows.length),R.rows[p].count=c0.getD p 0+(R.qp.getD p []).length
def R6{α:Type}{l:List α}{i:Nat}(d:α)(h:i<l.length):l.getD i d=l[i]:=by simp[List.getD,h]
def nV{α:Type}(l:List α)(i j:Nat)(v d:α):(l.set i v).getD j d=if i=j/\i<l.length then v else l.getD j d:=by
 simp only[ks,rp];by_cases h:i=j;subst h;by_cases a:i<l.length;simp[a];simp[a];simp[h]
def Sv.add{f:List Nat}{W k:Nat}{D0:DB}{c0:List Nat}{R:zu}(h:Sv f W k D0 c0 R)(h3:∀a∈f,a<=3){p:Nat}(G:p<f.length){row:zi}(w:RK (f.getD p 0) row)(hs:RZ W row){mr:Nat}(hc:R.count<=mr)(hm:mr<=1048576):
  ∃D ok,jM mr R p row=some (D,ok)/\Sv f W k D0 c0 D/\D.jg=R.jg/\(zxx f D p row).isSome=true/\(∀q x,x∈R.qp.getD q []->x∈D.qp.getD q [])/\(∀q x,x∈D.qp.getD q []->x∈R.qp.getD q []∨q=p/\x=row)/\(ok=true->D.count<=mr)/\(ok=false->D.count>mr):=by
 have g:p<R.rows.length:=by rw[h.inv.len];exact G
 have u:p<R.qp.length:=by rw[h.flen];exact G
 obtain⟨V,t2,I,t4⟩:=h.inv.tries p g;have N:f.getD p 0<=3:=by rw[R6 _ G];exact h3 _ (zt G)
 have ab:=tQ R.rows p g;rw[←h.inv.cnt] at ab;have X:=h.cnts p g;have J:=(BF R.rows[p] row).2 (by rw[t2];exact hs);obtain⟨O,U,H,K,Z,a6,P⟩:=V.add row R.qx w.1 J;have ad:(row.take R.rows[p].ql).length=R.rows[p].ql:=by
  rw[qG,w.1,I];have:=(lh (f.getD p 0)).2;omega
 have M:=λx (i:RK (f.getD p 0) x)=>V.mark x i.1;have v:R.rows.getD p zj.zero=R.rows[p]:=R6 _ g;have t:zxx f R p row=un R.rows[p] (row.take R.rows[p].ql):=by
  unfold zxx;rw[zb ⟨G,w⟩,v,M row w]
 unfold jM;rw[zb ⟨g,u,by rw[v];exact V.okT (by omega),by omega,by omega⟩,v];cases hA:yx R.rows[p] row R.qx with
 |mk T b=>
  rw[hA] at O U H K Z a6 P;simp only at O U H K Z a6 P;cases b;have hT:=Z rfl;subst hT;have B:=sD g;refine⟨{R with rows:=R.rows.set p R.rows[p]},true,rfl,?_,rfl,?_,λq x i=>i,λq x i=>zh i,λ_=>hc,λq=>by cases q⟩;rw[B];exact h;rw[B];show(zxx f R p row).isSome=true;rw[t];rw[←Option.not_isNone,←K];rfl;have n:un R.rows[p] (row.take R.rows[p].ql)=none:=by
   rcases j:un R.rows[p] (row.take R.rows[p].ql) with _|m;rfl;rw[j] at K;cases K
  have A:D0 p row=none/\row∉R.qp.getD p []:=by
   have:=h.abs p row;rw[t,n] at this;rcases j:D0 p row with _|m;rw[j] at this;refine⟨rfl,λaa=>?_⟩;simp only at this;rw[zb aa] at this;cases this;rw[j] at this;cases this
  have L:R.qp.getD p []=R.qp[p]:=R6 _ u;have ac:=KS R.rows p T g;have E:=a6 rfl;have Q:(R.rows.set p T).length=R.rows.length:=by simp
  have hinv:qv f W {R with rows:=R.rows.set p T,qp:=R.qp.set p (R.qp.getD p []++[row]),count:=R.count+1}:=by
   refine⟨by simp[h.inv.len],λq j=>?_,?_⟩;simp only[gx] at j;simp only[lg];by_cases e:p=q;subst e;simp only[if_true];refine⟨O,by rw[U,t2],by rw[H,I],λx i=>?_⟩;obtain⟨S,Y⟩:=(qB T x).1 i;rw[H] at S ⊢;rw[P x S] at Y;by_cases F:x=row.take R.rows[p].ql;rw[F,I,Gn N w];exact w;rw[za F] at Y;exact t4 x ((qB R.rows[p] x).2 ⟨S,Y⟩);simp only[e,if_false];exact h.inv.tries q j;show R.count+1=((R.rows.set p T).map (·.count)).sum;rw[h.inv.cnt];omega
  have r:∀q,(R.rows.set p T).getD q zj.zero=if p=q then T else R.rows.getD q zj.zero:=λq=>by
   rw[nV];by_cases e:p=q;rw[zb ⟨e,g⟩,zb e];rw[za (λx=>e x.1),za e]
  have c:∀q,(R.qp.set p (R.qp.getD p []++[row])).getD q []=if p=q then R.qp.getD p []++[row] else R.qp.getD q []:=λq=>by
   rw[nV];by_cases e:p=q;rw[zb ⟨e,u⟩,zb e];rw[za (λx=>e x.1),za e]
  have o:∀q x,zxx f {R with rows:=R.rows.set p T,qp:=R.qp.set p (R.qp.getD p []++[row]),count:=R.count+1} q x=if q=p/\x=row then some k else zxx f R q x:=by
   intro q x;unfold zxx;simp only[r];by_cases e:p=q;subst e;simp only[if_true,true_and];by_cases d:p<f.length/\RK (f.getD p 0) x;rw[zb d,zb d,v,M x d.2,O.mark x d.2.1,H,P _ (by rw[qG,d.2.1,I];have:=(lh (f.getD p 0)).2;omega)];by_cases F:x=row;subst F;rw[zb rfl,zb rfl,n,h.qx];rfl;rw[za F,za];intro C;rw[I] at C;exact F (O3 N d.2 w C);rw[za d,za d,za];rintro rfl;exact d ⟨G,w⟩;simp only[e,if_false];rw[za (λz:q=p/\x=row=>e z.1.symm)]
  refine⟨{R with rows:=R.rows.set p T,qp:=R.qp.set p (R.qp.getD p []++[row]),count:=R.count+1},decide (R.count+1<=mr),rfl,⟨hinv,h.qx,by simp[h.flen],λq j=>?_,λq x=>?_,λq j=>?_⟩,rfl,?_,λq x i=>?_,λq x i=>?_,λq=>by simpa using q,λq=>by simpa using q⟩;have s:q<R.qp.length:=by simpa using j
  have e:(R.qp.set p (R.qp.getD p []++[row]))[q]=(R.qp.set p (R.qp.getD p []++[row])).getD q []:=(R6 _ j).symm;show((R.qp.set p (R.qp.getD p []++[row]))[q]).Nodup/\_;rw[e,c q];by_cases C:p=q;subst C;rw[zb rfl,L];obtain⟨n1,n2⟩:=h.qp p u;rw[L] at A;refine⟨?_,λx i=>?_⟩;rw[pz];exact⟨n1,by simp,λx i y hy=>by simp at hy;subst hy;rintro rfl;exact A.2 i⟩;rcases zW.1 i with q|q;exact n2 x q;simp at q;subst q;exact⟨w,hs,A.1⟩;rw[za C,R6 _ s];exact h.qp q s;rw[o];show _=match D0 q x with|some m=>some m|none=>if x∈(R.qp.set p (R.qp.getD p []++[row])).getD q [] then some k else none
  rw[c q,h.abs q x];by_cases e:q=p/\x=row;obtain⟨rfl,rfl⟩:=e;rw[zb ⟨rfl,rfl⟩,A.1];simp;rw[za e];rcases D0 q x with _|m;simp only;by_cases C:p=q;subst C;rw[zb rfl];have:x≠row:=λe3=>e ⟨rfl,e3⟩;simp[this];rw[za C];rfl;have s:q<R.rows.length:=by simpa using j
  show(R.rows.set p T)[q].count=c0.getD q 0+((R.qp.set p (R.qp.getD p []++[row])).getD q []).length;rw[c q,←R6 zj.zero j,r q];by_cases e:p=q;subst e;rw[zb rfl,zb rfl,E,X];simp;omega;rw[za e,za e,R6 _ s];exact h.cnts q s;rw[o,zb ⟨rfl,rfl⟩];rfl;show x∈(R.qp.set p (R.qp.getD p []++[row])).getD q [];rw[c q];by_cases e:p=q;subst e;rw[zb rfl];exact List.mem_append_left _ i;rw[za e];exact i;have l:x∈(R.qp.set p (R.qp.getD p []++[row])).getD q []:=i;rw[c q] at l;by_cases e:p=q;subst e;rw[zb rfl] at l;rcases zW.1 l with q|q;exact zh q;simp at q;exact ze ⟨rfl,q⟩;rw[za e] at l;exact zh l
end
section
open Classical
variable {Ts Ns:List zj}{W:Nat}
def GP{r:zs}(d:dC r)(e:dH r Ts W){y:List Nat}(g:qW r Ts Ns y){p:Nat}(n:p<r.vars):y.getD p 0<W:=by
 obtain⟨l,h,k⟩:=d.safe p n;obtain⟨i,c,rfl⟩:=uO h;have b:i<Ts.length:=by rw[e.len];exact c
 obtain⟨_,_,o⟩:=e.ok i _ _ (yi c) (yi b);have m:=d.vars;have a:=(p7 _ 5 p).2 ⟨by omega,k⟩;have j:yZ r.qc[i]≠0:=by
  rw[fd];intro q;rw[nf.1 q] at a;cases a
 have f:=(g.1 i _ _ (yi c) (yi b)).2 j;have:=wD _ 0 f (y.getD p 0) (zE.2 ⟨p,a,rfl⟩);omega
def FR{l:zw}{a:Nat}(h:qo l a W)(j:0<W){y:List Nat}(f:∀p,zJ l p=true->y.getD p 0<W):RZ W (zG l y):=by
 have g:∀i,R0 l y i<W:=by
  intro i;unfold R0;split;rename_i e;rw[show l.qg.getD i ⟨false,0,0⟩=l.qg[i] by simp[List.getD,e]];have c:=zt e;unfold SG;split;rename_i b;simp only[uG,decide_eq_true_eq] at b;exact f _ ((gS l _).2 ⟨_,c,b.1,rfl⟩);rename_i b;cases d:l.qg[i].var;exact h.con _ c d;have:=(h.lev _ c d).1;simp[d,this] at b;exact j
 intro v b;simp only[zG,zy,lY,or_false] at b;rcases b with rfl|rfl|rfl<;>exact g _
def pn.mono{r:zs}{E i:zi->Prop}{J:z7}{M:Nat}(h:pn r Ts Ns W E J M)(g:∀x,E x->i x):pn r Ts Ns W i J M:=by
 rcases h with⟨c,e,b⟩|⟨m,d,f,c,e,b,l,k,j⟩
 exact zh ⟨c,e,λy a=>g _ (b y a)⟩;exact ze ⟨m,d,f,c,e,b,l,λy a=>(k y a).imp (g _) id,j⟩
def Sv.jg{a:List Nat}{W k:Nat}{D0:DB}{c0:List Nat}{R:zu}(h:Sv a W k D0 c0 R)(m:Int):Sv a W k D0 c0 {R with jg:=m}:=
 ⟨⟨h.inv.len,h.inv.tries,h.inv.cnt⟩,h.qx,h.flen,h.qp,h.abs,h.cnts⟩
def Sv.grow{b:List Nat}{k:Nat}{D0:DB}{c0:List Nat}{R R':zu}(h:Sv b W k D0 c0 R)(f:Sv b W k D0 c0 R')(d:∀q x,x∈R.qp.getD q []->x∈R'.qp.getD q []){p:Nat}{x:zi}(a:(zxx b R p x).isSome=true):(zxx b R' p x).isSome=true:=by
 rw[h.abs] at a;rw[f.abs];rcases e:D0 p x with _|m;rw[e] at a;simp only at a ⊢;by_cases c:x∈R.qp.getD p [];rw[zb (d p x c)];rfl;rw[za c] at a;cases a;rfl
structure F3 (ar:List Nat) (W k:Nat) (D0:DB) (c0:List Nat) (p mr:Nat) (sol:zi->Prop) (R R':zu) (ok:Bool):Prop where
 mid:Sv ar W k D0 c0 R'
 mono:∀q x,x∈R.qp.getD q []->x∈R'.qp.getD q []
 sound:∀q x,x∈R'.qp.getD q []->x∈R.qp.getD q []∨q=p/\sol x
 yes:ok=true->R'.count<=mr/\∀x,sol x->(zxx ar R' p x).isSome=true
 no:ok=false->R'.count>mr
def Kj{d:List Nat}{k:Nat}{D0:DB}{c0:List Nat}{r:zs}(o:dC r)(E:dH r Ts W)(h3:∀a∈d,a<=3)(O:0<W)(S:r.head.pred<d.length)(w:qo r.head (d.getD r.head.pred 0) W)(A:Nat)(G:W*(r.qc.length+1)+r.qc.length<=A){mr:Nat}(t:mr<=1048576):
  ∀(n:Nat) (R:zu) (J:z7) (M:Nat),Sv d W k D0 c0 R->R.count<=mr->pn r Ts Ns W (λx=>(zxx d R r.head.pred x).isSome=true) J M->M+A+2<n->∃F ok,vG mr r.head.pred n R J=some (F,ok)/\F3 d W k D0 c0 r.head.pred mr (λx=>∃y,qW r Ts Ns y/\x=zG r.head y) R F ok:=by
 intro n;induction n with
 |zero=>intro R J M _ _ _ h;omega
 |succ n N=>
  intro R J M h C T hn;obtain⟨f,b,Z,n2,X⟩:=Pc o E _ A G n J M T (by omega);unfold vG;rw[Z];cases b;refine⟨_,true,rfl,h.jg _,λq x c=>c,λq x c=>zh c,λ_=>⟨C,?_⟩,λq=>by cases q⟩;rintro x ⟨y,U,rfl⟩;exact n2 rfl y U;obtain⟨g,L,P,m3,V⟩:=X rfl;simp only;rw[L];have u:=FR w O λp i=>GP o E g (o.head p i);obtain⟨B,ok,H,j,_,Y,s,D,a7,K⟩:=h.add h3 S (tw w f.jd) u C t;rw[H];cases ok;refine⟨B,false,rfl,j,s,λq x c=>?_,(λq=>by cases q),K⟩;rcases D q x c with z|⟨l,v⟩;exact zh z;exact ze ⟨l,f.jd,g,v⟩;simp only;obtain⟨Q,m,I,e⟩:=N B f P j (a7 rfl) (V.mono λx c=>by
   rcases c with q|q;exact h.grow j s q;rw[q];exact Y) (by omega)
  refine⟨Q,m,I,e.mid,λq x c=>e.mono q x (s q x c),λq x c=>?_,e.yes,e.no⟩;rcases e.sound q x c with z|z;rcases D q x z with z|⟨l,v⟩;exact zh z;exact ze ⟨l,f.jd,g,v⟩;exact ze z
end
section
open Classical
variable {r:zs}{W wd mr:Nat}{c0:List Nat}
def RB(D:DB)(p:Nat)(x:zi):Prop:=(D p x).isSome=true
def Tr(r:zs)(D:DB)(x:zi):Prop:=∃y,(∀l∈r.qc,RB D l.pred (zG l y))/\(∀l∈r.qw,D l.pred (zG l y)=none)/\x=zG r.head y
structure nN (r:zs) (ar:List Nat) (W:Nat):Prop where
 fine:dC r
 hpred:r.head.pred<ar.length
 head:qo r.head (ar.getD r.head.pred 0) W
 qc:∀l∈r.qc,l.pred<ar.length/\qo l (ar.getD l.pred 0) W
 qw:∀l∈r.qw,l.pred<ar.length/\qo l (ar.getD l.pred 0) W
def sG(a:List Nat)(D:DB):Prop:=∀p x,RB D p x->p<a.length/\RK (a.getD p 0) x
def s6(a:List Nat)(R:zu):sG a (zxx a R):=by
 intro p x h;unfold RB zxx at h;split at h;assumption
 cases h
def E8{d:List Nat}(o:nN r d W){R:zu}(v:qv d W R){h:List zj}{P:Nat->zi->Prop}(g:h.length=r.qc.length)(q:∀(i:Nat) (l:zw) (T:zj),r.qc[i]?=some l->h[i]?=some T->ve T l W (P i)/\∀x,P i x->RK (d.getD l.pred 0) x)(y:List Nat):
  qW r h (ju wd R r) y↔(∀(i:Nat) (l:zw),r.qc[i]?=some l->P i (zG l y))/\∀l∈r.qw,zxx d R l.pred (zG l y)=none:=by
 have b:∀l∈r.qw,ut (ly wd R l.pred) (zG l y)=zxx d R l.pred (zG l y):=by
  intro l a;obtain⟨u,t⟩:=o.qw l a;unfold ly zxx;rw[za (by rw[v.len];omega),zb ⟨u,tw t y⟩]
 unfold qW ju;constructor;rintro⟨m,k⟩;refine⟨λi l a=>?_,λl a=>?_⟩;have e:i<h.length:=by rw[g];exact(kf.1 a).1
 obtain⟨n,j⟩:=q i l _ a (yi e);exact(n.sat (o.qc l (gU a)).2 j y).1 (m i l _ a (yi e));rw[←b l a];obtain⟨i,c,rfl⟩:=uO a;exact k (r.qw[i],ly wd R r.qw[i].pred) (qE.2 ⟨i,by simp[c],by simp⟩);rintro⟨m,k⟩;refine⟨λi l T a p=>?_,λx s=>?_⟩;obtain⟨n,j⟩:=q i l T a p;exact(n.sat (o.qc l (gU a)).2 j y).2 (m i l a);obtain⟨i,c,rfl⟩:=qE.1 s;simp only[List.length_zip,xY] at c;have f:i<r.qw.length:=by omega
 simp only[List.getElem_zip,xV];rw[b _ (zt f)];exact k _ (zt f)
structure iW (ar:List Nat) (W:Nat) (w:yb) (r:zs) (D0 D:DB) (c:List Nat):Prop where
 rule:w.rule=r
 len:w.qm.length=r.qc.length
 qm:∀(i:Nat) (l:zw) (V:yF),r.qc[i]?=some l->w.qm[i]?=some V->nw V l W (RB D0 l.pred) (RB D l.pred) (λx=>RB D l.pred x/\¬RB D0 l.pred x) (c.getD l.pred 0)
def fX(W:Nat)(r:zs):Nat:=vy W r.vars 0 [] 0+(W*(r.qc.length+1)+r.qc.length)+3
def ER{g:List Nat}{k:Nat}{D:DB}(h:nN r g W)(I:∀a∈g,a<=3)(H:0<W)(w:mr<=1048576){R:zu}(p:Sv g W k D c0 R)(K:R.count<=mr){j:List zj}{P:Nat->zi->Prop}(c:j.length=r.qc.length)(t:∀(i:Nat) (l:zw) (T:zj),r.qc[i]?=some l->j[i]?=some T->ve T l W (P i)/\∀x,P i x->RK (g.getD l.pred 0) x)(B:∀l∈r.qw,∀x,zxx g R l.pred x=D l.pred x)(b:Nat)(A:fX W r<=b):
  ∃n ok,vG mr r.head.pred b R (xB r j (ju wd R r))=some (n,ok)/\F3 g W k D c0 r.head.pred mr (λx=>∃y,((∀(i:Nat) (l:zw),r.qc[i]?=some l->P i (zG l y))/\∀l∈r.qw,D l.pred (zG l y)=none)/\x=zG r.head y) R n ok:=by
 have E:dH r j W:=⟨c,λi l T e u=>by obtain⟨v,_⟩:=t i l T e u;exact⟨v.ok,v.ql,by rw[v.qf];exact zf _⟩⟩;have C:vy W r.vars 0 [] 0+(W*(r.qc.length+1)+r.qc.length)+3<=b:=A;obtain⟨n,ok,F,f⟩:=Kj (Ns:=ju wd R r) (D0:=D) (c0:=c0) (k:=k) h.fine E I H h.hpred h.head _ (zf _) w b R _ _ p K (IL h.fine E _) (by omega);have d:∀x,(∃y,qW r j (ju wd R r) y/\x=zG r.head y)↔∃y,((∀(i:Nat) (l:zw),r.qc[i]?=some l->P i (zG l y))/\∀l∈r.qw,D l.pred (zG l y)=none)/\x=zG r.head y:=by
  intro x;constructor;rintro⟨y,m,s⟩;obtain⟨G,J⟩:=(E8 h p.inv c t y).1 m;exact⟨y,⟨G,λl e=>by rw[←B l e];exact J l e⟩,s⟩;rintro⟨y,m,s⟩;exact⟨y,(E8 h p.inv c t y).2 ⟨m.1,λl e=>by rw[B l e];exact m.2 l e⟩,s⟩
 exact⟨n,ok,F,f.mid,f.mono,λq x o=>(f.sound q x o).imp id λz=>⟨z.1,(d x).1 z.2⟩,λq=>⟨(f.yes q).1,λx o=>(f.yes q).2 x ((d x).2 o)⟩,f.no⟩
structure tz (ar:List Nat) (W k:Nat) (D:DB) (c0:List Nat) (mr:Nat) (want:Nat->zi->Prop) (R R':zu) (ok:Bool):Prop where
 mid:Sv ar W k D c0 R'
 mono:∀q x,x∈R.qp.getD q []->x∈R'.qp.getD q []
 sound:∀q x,x∈R'.qp.getD q []->x∈R.qp.getD q []∨want q x
 yes:ok=true->R'.count<=mr
 no:ok=false->R'.count>mr
def NB{d:List Nat}{k:Nat}{D0 D:DB}{w:yb}(t:iW d W w r D0 D c0)(E:sG d D)(I:nN r d W)(J:∀a∈d,a<=3)(F:0<W)(u:mr<=1048576){R:zu}(H:Sv d W k D c0 R)(L:R.count<=mr)(G:∀l∈r.qw,∀x,zxx d R l.pred x=D l.pred x)(b:Nat)(v:fX W r<=b):
  ∃n ok,kG b wd mr true R w=some (n,ok)/\tz d W k D c0 mr (λq x=>q=r.head.pred/\Tr r D x) R n ok/\(ok=true->∀x,Tr r D x->RB (zxx d n) r.head.pred x):=by
 have M:∀(i:Nat) (l:zw) (T:zj),r.qc[i]?=some l->(w.qm.map (·.all))[i]?=some T->ve T l W ((λi x=>∃l,r.qc[i]?=some l/\RB D l.pred x) i)/\∀x,(λi x=>∃l,r.qc[i]?=some l/\RB D l.pred x) i x->RK (d.getD l.pred 0) x:=by
  intro i l T e m;simp only[mo,vK] at m;obtain⟨V,B,rfl⟩:=m;refine⟨(t.qm i l V e B).all.congr λx=>⟨λq=>⟨l,e,q⟩,fun⟨j,c,g⟩=>?_⟩,λx ⟨j,c,g⟩=>?_⟩;rw[e] at c;simp only[zr] at c;subst c;exact g;rw[e] at c;simp only[zr] at c;subst c;exact(E _ x g).2
 obtain⟨n,ok,C,h⟩:=ER (wd:=wd) I J F u H L (by simp[t.len]) M G b v;have f:∀x,(∃y,((∀(i:Nat) (l:zw),r.qc[i]?=some l->(∃j,r.qc[i]?=some j/\RB D j.pred (zG l y)))/\∀l∈r.qw,D l.pred (zG l y)=none)/\x=zG r.head y)↔Tr r D x:=by
  intro x;constructor;rintro⟨y,⟨c,g⟩,p⟩;refine⟨y,λl e=>?_,g,p⟩;obtain⟨i,A,rfl⟩:=uO e;obtain⟨j,o,K⟩:=c i _ (yi A);rw[yi A] at o;simp only[zr] at o;subst o;exact K;rintro⟨y,c,g,p⟩;exact⟨y,⟨λi l e=>⟨l,e,c l (gU e)⟩,g⟩,p⟩
 unfold kG;rw[zb rfl,t.rule];exact⟨n,ok,C,⟨h.mid,h.mono,λq x s=>(h.sound q x s).imp id λz=>⟨z.1,(f x).1 z.2⟩,λq=>(h.yes q).1,h.no⟩,λq x s=>(h.yes q).2 x ((f x).2 s)⟩
def Tw(r:zs)(D0 D:DB)(i:Nat)(y:List Nat):Prop:=∃(j:Nat) (l:zw),i<=j/\r.qc[j]?=some l/\RB D l.pred (zG l y)/\¬RB D0 l.pred (zG l y)/\(∀(t:Nat) (a:zw),r.qc[t]?=some a->(t<j->RB D0 a.pred (zG a y))/\(j<t->RB D a.pred (zG a y)))/\∀l∈r.qw,D l.pred (zG l y)=none
def LV{s:List Nat}{k:Nat}{D0 D:DB}{w:yb}(L:iW s W w r D0 D c0)(X:sG s D)(Q:∀p x,RB D0 p x->RB D p x)(hr:nN r s W)(h3:∀a∈s,a<=3)(hW:0<W)(ag:mr<=1048576)(v:Nat)(ah:fX W r<=v)(aa:∀l∈r.qw,l.pred≠r.head.pred):
  ∀(n i:Nat) (R:zu),i+n=w.qm.length->Sv s W k D c0 R->R.count<=mr->(∀l∈r.qw,∀x,zxx s R l.pred x=D l.pred x)->∃R' ok,jJ v wd mr w n i R=some (R',ok)/\tz s W k D c0 mr (λq x=>q=r.head.pred/\Tr r D x) R R' ok/\(ok=true->∀y,Tw r D0 D i y->RB (zxx s R') r.head.pred (zG r.head y)):=by
 intro n;induction n with
 |zero=>
  intro i R hi O Y _;refine⟨R,true,rfl,⟨O,λq x c=>c,λq x c=>zh c,λ_=>Y,λq=>by cases q⟩,λ_ y N=>?_⟩;obtain⟨j,l,b,d,_⟩:=N;have:=(kf.1 d).1;have:=L.len;omega
 |succ n ih=>
  intro i R hi O Y hn;have G:i<w.qm.length:=by omega
  have E:i<r.qc.length:=by rw[←L.len];exact G
  have Z:=L.qm i _ _ (yi E) (yi G);have ae:=(hr.qc _ (zt E)).2;have hg:w.qm.getD i ⟨⟨0,[]⟩,zj.zero,zj.zero,zj.zero⟩=w.qm[i]:=R6 _ G;unfold jJ;rw[hg];by_cases A:w.qm[i].qp.count>0;rw[zb A];have hT:∀(t:Nat) (l:zw) (T:zj),r.qc[t]?=some l->(RN w.qm i)[t]?=some T->ve T l W ((λt x=>∃l,r.qc[t]?=some l/\(t<i->RB D0 l.pred x)/\(t=i->RB D l.pred x/\¬RB D0 l.pred x)/\(i<t->RB D l.pred x)) t)/\∀x,(λt x=>∃l,r.qc[t]?=some l/\(t<i->RB D0 l.pred x)/\(t=i->RB D l.pred x/\¬RB D0 l.pred x)/\(i<t->RB D l.pred x)) t x->RK (s.getD l.pred 0) x:=by
   intro t l T h K;unfold RN at K;simp only[mo,vK,List.getElem?_zipIdx] at K;obtain⟨⟨V,j⟩,⟨V',af,M⟩,rfl⟩:=K;simp only[vn,yc] at M;obtain⟨rfl,rfl⟩:=M;have H:=L.qm t l V' h af;have P:∀x,(∃l,r.qc[t]?=some l/\(t<i->RB D0 l.pred x)/\(t=i->RB D l.pred x/\¬RB D0 l.pred x)/\(i<t->RB D l.pred x))->RK (s.getD l.pred 0) x:=by
    rintro x ⟨e,b,d,u,B⟩;rw[h] at b;simp only[zr] at b;subst b;rcases pg t i with z|z|z;exact(X _ x (Q _ x (d z))).2;exact(X _ x (u z).1).2;exact(X _ x (B z)).2
   refine⟨?_,P⟩;simp only;by_cases h1:t<i;rw[zb h1];refine H.before.congr λx=>⟨λq=>⟨l,h,λ_=>q,λz=>by omega,λz=>by omega⟩,fun⟨e,b,d,_,_⟩=>?_⟩;rw[h] at b;simp only[zr] at b;subst b;exact d h1;rw[za h1];by_cases h2:t=i;rw[zb h2];refine H.qp.congr λx=>⟨λq=>⟨l,h,λz=>by omega,λ_=>q,λz=>by omega⟩,fun⟨e,b,_,u,_⟩=>?_⟩;rw[h] at b;simp only[zr] at b;subst b;exact u h2;rw[za h2];refine H.all.congr λx=>⟨λq=>⟨l,h,λz=>by omega,λz=>by omega,λ_=>q⟩,fun⟨e,b,_,_,B⟩=>?_⟩;rw[h] at b;simp only[zr] at b;subst b;exact B (by omega)
  obtain⟨R1,ok,a1,o⟩:=ER (wd:=wd) hr h3 hW ag O Y (by simp[RN,L.len]) hT hn v ah;rw[L.rule,a1];have f:∀x,(∃y,((∀(t:Nat) (l:zw),r.qc[t]?=some l->(∃e,r.qc[t]?=some e/\(t<i->RB D0 e.pred (zG l y))/\(t=i->RB D e.pred (zG l y)/\¬RB D0 e.pred (zG l y))/\(i<t->RB D e.pred (zG l y))))/\∀l∈r.qw,D l.pred (zG l y)=none)/\x=zG r.head y)->Tr r D x:=by
   rintro x ⟨y,⟨b,d⟩,u⟩;refine⟨y,λl h=>?_,d,u⟩;obtain⟨t,ht,rfl⟩:=uO h;obtain⟨e,s1,s2,s3,s4⟩:=b t _ (yi ht);rw[yi ht] at s1;simp only[zr] at s1;subst s1;rcases pg t i with z|z|z;exact Q _ _ (s2 z);exact(s3 z).1;exact s4 z
  cases ok;exact⟨R1,false,rfl,⟨o.mid,o.mono,λq x c=>(o.sound q x c).imp id λz=>⟨z.1,f x z.2⟩,(λq=>by cases q),o.no⟩,λq=>by cases q⟩;simp only;obtain⟨b1,b2⟩:=o.yes rfl;have ad:∀l∈r.qw,∀x,zxx s R1 l.pred x=D l.pred x:=by
   intro l h x;have ac:=aa l h;rw[o.mid.abs,←hn l h x,O.abs];rcases hq:D l.pred x with _|m;simp only;by_cases c:x∈R.qp.getD l.pred [];rw[zb c,zb (o.mono _ x c)];rw[za c,za];intro ab;rcases o.sound _ x ab with z|z;exact c z;exact ac z.1;rfl
  obtain⟨R2,I,c1,C,c3⟩:=ih (i+1) R1 (by omega) o.mid b1 ad;refine⟨R2,I,c1,⟨C.mid,λq x c=>C.mono q x (o.mono q x c),λq x c=>?_,C.yes,C.no⟩,λJ y N=>?_⟩;rcases C.sound q x c with z|z;exact(o.sound q x z).imp id λz=>⟨z.1,f x z.2⟩;exact ze z;obtain⟨j,l,b,d,u,B,S,U⟩:=N;by_cases F:j=i;subst F;refine o.mid.grow C.mid C.mono (b2 _ ⟨y,⟨λt e g=>⟨e,g,λz=>(S t e g).1 z,λz=>?_,λz=>(S t e g).2 z⟩,U⟩,rfl⟩);subst z;rw[d] at g;simp only[zr] at g;subst g;exact⟨u,B⟩;exact c3 J y ⟨j,l,by omega,d,u,B,S,U⟩;rw[za A];obtain⟨R2,I,c1,C,c3⟩:=ih (i+1) R (by omega) O Y hn;refine⟨R2,I,c1,C,λJ y N=>?_⟩;obtain⟨j,l,b,d,u,B,S,U⟩:=N;by_cases F:j=i;subst F;rw[yi E] at d;simp only[zr] at d;subst d;have hs:=(Z.qp.sat ae (λx c=>(X _ x c.1).2) y).2 ⟨u,B⟩;exact z9 (Nat.pos_of_ne_zero (hs.count Z.qp.ok Z.qp.ql (hr.fine.qg _ (zt E)))) A;exact c3 J y ⟨j,l,by omega,d,u,B,S,U⟩
end
section
open Classical
variable {W wd:Nat}{D0:DB}{ws:List yb}{rs:List zs}
structure se (rs:List zs) (ar:List Nat) (W:Nat):Prop where
 rules:∀r∈rs,nN r ar W
 apart:∀r∈rs,∀r'∈rs,∀l∈r.qw,l.pred≠r'.head.pred
def tP(rs:List zs)(R:zu):Prop:=∀q x,x∈R.qp.getD q []->∃r∈rs,q=r.head.pred
def Sv.qw{a:List Nat}{W k:Nat}{D:DB}{c0:List Nat}{R:zu}{rs:List zs}(h:Sv a W k D c0 R)(hs:se rs a W)(e:tP rs R){r:zs}(b:r∈rs):∀l∈r.qw,∀x,zxx a R l.pred x=D l.pred x:=by
 intro l g x;rw[h.abs];rcases j:D l.pred x with _|m;simp only;rw[za];intro c;obtain⟨f,d,i⟩:=e _ x c;exact hs.apart r b f d l g i;rfl
inductive kd (ar:List Nat) (W:Nat) (D0 D:DB) (c:List Nat):List yb->List zs->Prop
 |nil:kd ar W D0 D c [] []
 |cons {w:yb} {r:zs} {ws:List yb} {rs:List zs}:iW ar W w r D0 D c->kd ar W D0 D c ws rs->kd ar W D0 D c (w::ws) (r::rs)
def pV(first:Bool)(r:zs)(D0 D:DB)(x:zi):Prop:=if first then Tr r D x else ∃y,Tw r D0 D 0 y/\x=zG r.head y
def Gz{h:List Nat}{k:Nat}{D:DB}{c0:List Nat}(K:sG h D)(I:∀p x,RB D0 p x->RB D p x)(N:∀a∈h,a<=3)(L:0<W){mr:Nat}(t:mr<=1048576)(c:Nat){f:List zs}(hs:se f h W)(v:∀r∈f,fX W r<=c)(first:Bool)(Z:kd h W D0 D c0 ws rs)(i:∀r∈rs,r∈f):
  ∀(R:zu),Sv h W k D c0 R->R.count<=mr->tP f R->∃C ok,kS c wd mr first ws R=some (C,ok)/\tz h W k D c0 mr (λq x=>∃r∈rs,q=r.head.pred/\Tr r D x) R C ok/\tP f C/\(ok=true->∀r∈rs,∀x,pV first r D0 D x->RB (zxx h C) r.head.pred x):=by
 induction Z with
 |nil=>
  intro R s B E;exact⟨R,true,rfl,⟨s,λq x b=>b,λq x b=>zh b,λ_=>B,λq=>by cases q⟩,E,λ_ r X=>by cases X⟩
 |@cons w r ws rs o T P=>
  intro R s B E;have d:=i r (by simp);have M:=s.qw hs E d;have A:∃g ok,kG c wd mr first R w=some (g,ok)/\tz h W k D c0 mr (λq x=>q=r.head.pred/\Tr r D x) R g ok/\(ok=true->∀x,pV first r D0 D x->RB (zxx h g) r.head.pred x):=by
   cases first
   obtain⟨g,ok,m,e,n⟩:=LV (wd:=wd) o K I (hs.rules r d) N L t c (v r d) (hs.apart r d r d) w.qm.length 0 R (by omega) s B M;refine⟨g,ok,?_,e,λq x b=>?_⟩;unfold kG;exact m;have F:∃y,Tw r D0 D 0 y/\x=zG r.head y:=by simpa [pV] using b
   obtain⟨y,V,rfl⟩:=F;exact n q y V;obtain⟨g,ok,m,e,n⟩:=NB (wd:=wd) o K (hs.rules r d) N L t s B M c (v r d);exact⟨g,ok,m,e,λq x b=>n q x (by simpa [pV] using b)⟩
  obtain⟨g,ok,m,e,n⟩:=A;have u:tP f g:=by
   intro q x b;rcases e.sound q x b with z|z;exact E q x z;exact⟨r,d,z.1⟩
  unfold kS;rw[m];cases ok;exact⟨g,false,rfl,⟨e.mid,e.mono,λq x b=>(e.sound q x b).imp id λz=>⟨r,by simp,z⟩,e.yes,e.no⟩,u,λq=>by cases q⟩;simp only;obtain⟨U,H,O,j,Y,Q⟩:=P (λx b=>i x (by simp[b])) g e.mid (e.yes rfl) u;refine⟨U,H,O,⟨j.mid,λq x b=>j.mono q x (e.mono q x b),λq x b=>?_,j.yes,j.no⟩,Y,λJ G l x b=>?_⟩;rcases j.sound q x b with z|⟨G,S,z2⟩;exact(e.sound q x z).imp id λz=>⟨r,by simp,z⟩;exact ze ⟨G,by simp[S],z2⟩;rcases zy.1 l with rfl|l;exact e.mid.grow j.mid j.mono (n rfl x b);exact Q J G l x b
def Ph{r:zs}{D:DB}(q:∀p x,RB D0 p x->RB D p x){y:List Nat}(v:∀l∈r.qc,RB D l.pred (zG l y))(u:∀l∈r.qw,D l.pred (zG l y)=none):Tw r D0 D 0 y∨Tr r D0 (zG r.head y):=by
 by_cases c:∀l∈r.qc,RB D0 l.pred (zG l y);refine ze ⟨y,c,λl f=>?_,rfl⟩;rcases d:D0 l.pred (zG l y) with _|m;rfl;have:=q l.pred (zG l y) (by unfold RB;rw[d];rfl);unfold RB at this;rw[u l f] at this;cases this;refine zh ?_;have o:∃(j:Nat) (l:zw),r.qc[j]?=some l/\¬RB D0 l.pred (zG l y):=by
  false_or_by_contra
  rename_i k;apply c;intro l f;obtain⟨i,J,rfl⟩:=uO f;false_or_by_contra
  rename_i d;exact k ⟨i,_,yi J,d⟩
 have e:∀n j:Nat,j=n->(∃l,r.qc[j]?=some l/\¬RB D0 l.pred (zG l y))->∃(j:Nat) (l:zw),r.qc[j]?=some l/\¬RB D0 l.pred (zG l y)/\∀(t:Nat) (a:zw),t<j->r.qc[t]?=some a->RB D0 a.pred (zG a y):=by
  intro n;induction n using Nat.strongRecOn with
  |_ n C=>
   rintro j rfl ⟨l,f,d⟩;by_cases b:∃(t:Nat) (a:zw),t<j/\r.qc[t]?=some a/\¬RB D0 a.pred (zG a y);obtain⟨t,a,h,s,g⟩:=b;exact C t h t rfl ⟨a,s,g⟩;refine⟨j,l,f,d,λt a h s=>?_⟩;false_or_by_contra
   rename_i g;exact b ⟨t,a,h,s,g⟩
 obtain⟨w,F,I,G⟩:=o;obtain⟨j,l,B,H,E⟩:=e w w rfl ⟨F,I,G⟩;exact⟨j,l,zv _,B,v l (gU B),H,λt a A=>⟨λz=>E t a z A,λ_=>v a (gU A)⟩,u⟩
def FS{r:List Nat}{W wd k:Nat}(I:W=zL wd){D0 D:DB}{c0:List Nat}{R':zu}(A:∀p x,RB D0 p x->RB D p x)(j:Sv r W k D c0 R')(R:R'.count<=1048576)(a:Nat)(z:3*(W+1)<=a):
  ∀(d:List zw) (vs:List yF),vs.length=d.length->(∀l∈d,l.pred<r.length)->(∀(i:Nat) (l:zw) (V:yF),d[i]?=some l->vs[i]?=some V->nw V l W (RB D0 l.pred) (RB D l.pred) (λx=>RB D l.pred x/\¬RB D0 l.pred x) (c0.getD l.pred 0)) →
   ∃c,dX a wd R'.qp vs=some c/\c.length=d.length/\∀(i:Nat) (l:zw) (V:yF),d[i]?=some l->c[i]?=some V->nw V l W (RB D l.pred) (RB (zxx r R') l.pred) (λx=>RB (zxx r R') l.pred x/\¬RB D l.pred x) ((R'.rows.map (·.count)).getD l.pred 0)
 |[],[],_,_,_=>⟨[],rfl,rfl,λi l V h=>by simp at h⟩
 |[],V::vs,y,_,_=>by simp at y
 |l::d,[],y,_,_=>by simp at y
 |l::d,V::vs,y,K,J=>by
  have H:=J 0 l V rfl rfl;have B:=K l (by simp);have f:l.pred<R'.qp.length:=by rw[j.flen];exact B
  have g:l.pred<R'.rows.length:=by rw[j.inv.len];exact B
  have w:=j.qp l.pred f;have u:=j.cnts l.pred g;have F:=tQ R'.rows l.pred g;rw[←j.inv.cnt] at F;have C:R'.qp.getD l.pred []=R'.qp[l.pred]:=R6 _ f;rw[C] at u;obtain⟨G,N,o⟩:=FB H I R'.qp[l.pred] (λx n=>(w.2 x n).2.1) (by omega) a z;obtain⟨c,P,M,O⟩:=FS I A j R a z d vs (by simpa using y) (λx n=>K x (by simp[n])) (λi E G t s=>J (i+1) E G (by simpa using t) (by simpa using s));have b:∀x,RB (zxx r R') l.pred x↔RB D l.pred x∨x∈R'.qp[l.pred]:=by
   intro x;unfold RB;rw[j.abs,C];cases S:D l.pred x with
   |some m=>simp
   |none=>
    simp only;by_cases n:x∈R'.qp[l.pred]
    .simp[n]
    .simp[n]
  refine⟨G::c,?_,by simp[M],λi E U t s=>?_⟩
  .unfold dX;rw[H.lit,zb f,C,N,P]
  .cases i with
   |zero=>
    simp only[fz,zr] at t s;subst t;subst s;refine⟨o.lit,o.before.congr λx=>?_,o.qp.congr λx=>?_,o.all.congr λx=>(b x).symm,?_⟩
    .constructor
     .rintro(q|q)
      .exact A _ x q
      .exact q.1
     .intro q;by_cases L:RB D0 l.pred x
      .exact zh L
      .exact ze ⟨q,L⟩
    .constructor
     .intro q;refine⟨(b x).2 (ze q),λv=>?_⟩;unfold RB at v;rw[(w.2 x q).2.2] at v;cases v
     .rintro⟨Q,v⟩;exact((b x).1 Q).resolve_left v
    .have e:(R'.rows.map (·.count)).getD l.pred 0=R'.rows[l.pred].count:=by simp[List.getD,g]
     rw[e,u];exact o.few
   |succ i=>exact O i E U (by simpa using t) (by simpa using s)
def K8{d:List Nat}{k:Nat}(m:W=zL wd){D:DB}{c0:List Nat}{R':zu}(g:∀p x,RB D0 p x->RB D p x)(t:Sv d W k D c0 R')(u:R'.count<=1048576)(a:Nat)(f:3*(W+1)<=a)(v:kd d W D0 D c0 ws rs)(h:∀r∈rs,∀l∈r.qc,l.pred<d.length):
  ∃b,gR a wd R'.qp ws=some b/\kd d W D (zxx d R') (R'.rows.map (·.count)) b rs:=by
 induction v with
 |nil=>exact⟨[],rfl,kd.nil⟩
 |@cons w r ws rs c o j=>
  obtain⟨b,y,z⟩:=j (λx q=>h x (by simp[q]));obtain⟨e,s,i,n⟩:=FS m g t u a f r.qc w.qm c.len (h r (by simp)) c.qm;refine⟨{w with qm:=e}::b,?_,kd.cons ⟨c.rule,i,n⟩ z⟩;unfold gR;rw[s,y]
def qU(rs:List zs)(D:DB)(p:Nat)(x:zi):Prop:=∃r∈rs,p=r.head.pred/\Tr r D x
noncomputable def zx4(rs:List zs)(k:Nat)(D:DB):DB:=λp x=>match D p x with
 |some m=>some m
 |none=>if qU rs D p x then some k else none
def Sv.clear{a:List Nat}{R:zu}(h:qv a W R):Sv a W R.qx (zxx a R) (R.rows.map (·.count)) (qD R):=by
 have d:∀p,(List.replicate R.rows.length ([]:List zi)).getD p []=[]:=λp=>by
  by_cases b:p<R.rows.length<;>simp[List.getD,b]
 refine⟨⟨h.len,h.tries,h.cnt⟩,rfl,by simp[qD,h.len],λp b=>?_,λp x=>?_,λp b=>?_⟩;simp only[qD,tp];exact⟨List.nodup_nil,λx e=>by cases e⟩;show zxx a R p x=match zxx a R p x with|some m=>some m|none=>if x∈(List.replicate R.rows.length ([]:List zi)).getD p [] then some R.qx else none
 rw[d];cases zxx a R p x<;>simp
 show R.rows[p].count=(R.rows.map (·.count)).getD p 0+((List.replicate R.rows.length ([]:List zi)).getD p []).length;have c:p<R.rows.length:=b;rw[d,show(R.rows.map (·.count)).getD p 0=R.rows[p].count by simp[List.getD,c]];rfl
def Sv.start{a:List Nat}{R:zu}(h:qv a W R):Sv a W (R.qx+1) (zxx a R) (R.rows.map (·.count)) (qD {R with qx:=R.qx+1}):=
 Sv.clear (R:={R with qx:=R.qx+1}) ⟨h.len,h.tries,h.cnt⟩
def NX{b:List Nat}(z:W=zL wd)(O:∀a∈b,a<=3){mr:Nat}(E:mr<=1048576)(c:Nat)(hs:se rs b W)(A:(∀r∈rs,fX W r<=c)/\3*(W+1)<=c)(first:Bool){R:zu}(T:qv b W R)(S:R.count<=mr)(t:∀p x,RB D0 p x->RB (zxx b R) p x)(J:kd b W D0 (zxx b R) (R.rows.map (·.count)) ws rs)(F:first=false->∀p x,qU rs D0 p x->RB (zxx b R) p x):
  ∃d i ok,nX c wd mr first ws R=some (d,i,ok)/\qv b W d/\d.qx=R.qx+1/\(∀p x,RB (zxx b d) p x->RB (zx4 rs (R.qx+1) (zxx b R)) p x)/\(ok=false->d.count>mr)/\(ok=true->d.count<=mr/\zxx b d=zx4 rs (R.qx+1) (zxx b R)/\kd b W (zxx b R) (zxx b d) (d.rows.map (·.count)) i rs):=by
 have M:0<W:=by rw[z];unfold zL;split<;>omega
 have D:=Sv.start T;have w:∀q x,x∉(qD {R with qx:=R.qx+1}).qp.getD q []:=λq x h=>by
  have:(List.replicate R.rows.length ([]:List zi)).getD q []=[]:=by by_cases N:q<R.rows.length<;>simp[List.getD,N]
  have u:x∈(List.replicate R.rows.length ([]:List zi)).getD q []:=h;rw[this] at u;cases u
 obtain⟨d,ok,L,g,U,H⟩:=Gz (wd:=wd) (s6 b R) t O M E c hs A.1 first J (λr o=>o) (qD {R with qx:=R.qx+1}) D S (λq x h=>z9 h (w q x))
 have f:∀p x,x∈d.qp.getD p []->qU rs (zxx b R) p x:=λp x h=>(g.sound p x h).resolve_left (w p x);have k:∀p x,RB (zxx b d) p x->RB (zx4 rs (R.qx+1) (zxx b R)) p x:=by
  intro p x h;unfold RB at h ⊢;rw[g.mid.abs] at h;unfold zx4;rcases v:zxx b R p x with _|m;rw[v] at h;by_cases n:x∈d.qp.getD p [];rw[zb (f p x n)];rfl;rw[za n] at h;cases h;rfl
 unfold nX;rw[L];cases ok;exact⟨d,ws,false,rfl,g.mid.inv,g.mid.qx,k,λ_=>g.no rfl,λq=>by cases q⟩;have j:=g.yes rfl;obtain⟨i,P,K⟩:=K8 z t g.mid (by omega) c A.2 J (λr o l Q=>((hs.rules r o).qc l Q).1);simp only[P,jC];refine⟨d,i,true,rfl,g.mid.inv,g.mid.qx,k,λq=>(by cases q),λ_=>⟨j,?_,K⟩⟩;have s:∀p x,qU rs (zxx b R) p x->RB (zxx b d) p x:=by
  rintro p x ⟨r,o,rfl,y,G,I,rfl⟩;cases first
  rcases Ph t G I with q|q;exact H rfl r o _ (by simp only[pV];exact⟨y,q,rfl⟩);have C:=F rfl r.head.pred _ ⟨r,o,rfl,q⟩;unfold RB at C ⊢;rw[g.mid.abs];rcases v:zxx b R r.head.pred (zG r.head y) with _|m;rw[v] at C;cases C;rfl;exact H rfl r o _ (by simp only[pV,if_true];exact⟨y,G,I,rfl⟩)
 funext p x;have B:=g.mid.abs p x;unfold zx4;rw[B];rcases v:zxx b R p x with _|m;rw[v] at B;by_cases e:qU rs (zxx b R) p x;have:=s p x e;unfold RB at this;rw[B] at this;by_cases n:x∈d.qp.getD p [];rw[zb n,zb e];rw[za n] at this;cases this;rw[za e,za (λn=>e (f p x n))];rfl
end
section
open Classical
def pU{c:List Nat}{W:Nat}{R:zu}(h:qv c W R)(s:∀a∈c,a<=3){p:Nat}(g:p<R.rows.length)(x:zi):x∈(RV R.rows[p]).map (λk=>S1 k R.rows[p].ql)↔RB (zxx c R) p x:=by
 obtain⟨l,t,o,q⟩:=h.tries p g;have b:p<c.length:=by rw[←h.len];exact g
 have j:c.getD p 0<=3:=by rw[R6 _ b];exact s _ (zt b)
 have i:R.rows[p].ql<=3:=by rw[o];exact(lh _).2
 have e:R.rows.getD p zj.zero=R.rows[p]:=R6 _ g;unfold RB zxx;constructor;intro d;obtain⟨k,m,rfl⟩:=zE.1 d;obtain⟨n,r⟩:=(qB _ k).1 m;rw[zb ⟨b,q k m⟩,e,l.mark _ (D3 n i),rQ n];exact r;intro d;by_cases f:p<c.length/\RK (c.getD p 0) x;rw[zb f,e,l.mark x f.2.1] at d;refine zE.2 ⟨x.take R.rows[p].ql,(qB _ _).2 ⟨by rw[qG,f.2.1];omega,d⟩,?_⟩;rw[o,Gn j f.2];rw[za f] at d;cases d
def fE(D:DB)(n:Nat):Prop:=∃l:List (Nat×zi),l.Nodup/\(∀p x,(p,x)∈l↔RB D p x)/\l.length=n
def iK:∀{l1 l2:List (Nat×zi)},l1.Nodup->(∀x∈l1,x∈l2)->l1.length<=l2.length
 |[],l2,_,_=>by simp
 |a::l1,l2,c,d=>by
  have e:=d a (by simp);have g:=iK (l1:=l1) (l2:=l2.erase a) (jN.1 c).2 (λx f=>by
   have b:x≠a:=by rintro rfl;exact(jN.1 c).1 f
   exact(m4 b).2 (d x (by simp[f])))
  rw[nI e] at g;have:=nH e;simp;omega
def sd{D E:DB}{n m:Nat}(h:fE D n)(k:fE E m)(hs:∀p x,RB D p x->RB E p x):n<=m:=by
 obtain⟨l,c,d,rfl⟩:=h;obtain⟨e,f,a,rfl⟩:=k;exact iK c λx b=>(a x.1 x.2).2 (hs _ _ ((d x.1 x.2).1 b))
def eP{D:DB}{n m:Nat}(h:fE D n)(k:fE D m):n=m:=Nat.le_antisymm (sd h k λ_ _ q=>q) (sd k h λ_ _ q=>q)
def Oc{D E:DB}{n m:Nat}(h:fE D n)(k:fE E m)(hs:∀p x,RB D p x->RB E p x)(e:m<=n):∀p x,RB E p x->RB D p x:=by
 intro p x g;false_or_by_contra
 rename_i d;obtain⟨l,i,c,rfl⟩:=h;obtain⟨f,j,b,rfl⟩:=k;have:=iK (l1:=(p,x)::l) (l2:=f) (jN.2 ⟨λq=>d ((c p x).1 q),i⟩) (λy a=>by
  rcases zy.1 a with rfl|a;exact(b p x).2 g;exact(b y.1 y.2).2 (hs _ _ ((c y.1 y.2).1 a)))
 simp at this;omega
def qv.card{g:List Nat}{W:Nat}{R:zu}(h:qv g W R)(o:∀a∈g,a<=3):fE (zxx g R) R.count:=by
 refine⟨(List.range R.rows.length).flatMap λp=>((RV (R.rows.getD p zj.zero)).map λk=>S1 k (R.rows.getD p zj.zero).ql).map λx=>(p,x),?_,λp x=>?_,?_⟩;unfold List.Nodup;rw[List.pairwise_flatMap];refine⟨λp f=>?_,?_⟩;have j:=kx.1 f;rw[mP,R6 _ j,mP];refine List.Pairwise.imp_of_mem ?_ (oo R.rows[p] R.rows[p].ql 0 0);intro a b v w c e;simp only[yc,true_and] at e;have l:=((qB R.rows[p] a).1 v).1;have t:=((qB R.rows[p] b).1 w).1;have:=congrArg (List.take R.rows[p].ql) e;rw[rQ l,rQ t] at this;exact c this;refine List.Pairwise.imp ?_ (List.nodup_range (n:=R.rows.length));intro a b c x d y u e;obtain⟨_,_,rfl⟩:=zE.1 d;obtain⟨_,_,rfl⟩:=zE.1 u;simp only[yc] at e;exact c e.1;simp only[uP,kx];constructor;rintro⟨q,m,d⟩;obtain⟨z,r,e⟩:=zE.1 d;simp only[yc] at e;obtain⟨rfl,rfl⟩:=e;rw[R6 _ m] at r;exact(pU h o m z).1 r;intro d;have f:p<R.rows.length:=by rw[h.len];exact(s6 g R p x d).1
 refine⟨p,f,zE.2 ⟨x,?_,rfl⟩⟩;rw[R6 _ f];exact(pU h o f x).2 d;rw[List.length_flatMap,h.cnt];congr 1;refine j7 (by simp) λi l t=>?_;have s:i<R.rows.length:=by simpa using l
 simp only[xV,fc,xY,R6 zj.zero s];exact(h.tries i s).1.cnt
def rX:DB:=λ_ _=>none
def B5{o:List Nat}{W wd:Nat}(c:W=zL wd)(w:∀a∈o,a<=3){R:zu}(h:qv o W R)(L:R.count<=1048576)(b:Nat)(j:3*(W+1)<=b):∀(m:List zw),(∀l∈m,l.pred<o.length)->∃vs,d8 b wd R m=some vs/\vs.length=m.length/\∀(i:Nat) (l:zw) (V:yF),m[i]?=some l->vs[i]?=some V->nw V l W (RB rX l.pred) (RB (zxx o R) l.pred) (λx=>RB (zxx o R) l.pred x/\¬RB rX l.pred x) ((R.rows.map (·.count)).getD l.pred 0)
 |[],_=>⟨[],rfl,rfl,λi l V h=>by simp at h⟩
 |l::m,A=>by
  obtain⟨vs,H,E,G⟩:=B5 c w h L b j m (λx t=>A x (by simp[t]));have d:l.pred<R.rows.length:=by rw[h.len];exact A l (by simp)
  obtain⟨B,C,O,N⟩:=h.tries l.pred d;have z:=tQ R.rows l.pred d;rw[←h.cnt] at z;have s:0<W:=by rw[c];unfold zL;split<;>omega
  have p:ly wd R l.pred=R.rows[l.pred]:=by unfold ly;rw[za (by omega),R6 _ d]
  have r:=B.rowsG b (by rw[C];exact j) (by omega);have K:nw (kR wd l) l W (λ_=>False) (λ_=>False) (λ_=>False) 0:=⟨rfl,ve.new l wd W c,ve.new l wd W c,ve.new l wd W c,by simp[kR,xd,y7],by simp[kR,xd,y7]⟩;have g:((RV R.rows[l.pred]).map λk=>S1 k R.rows[l.pred].ql).length=R.rows[l.pred].count:=by rw[xY];exact B.cnt
  obtain⟨M,J,n⟩:=FB K c ((RV R.rows[l.pred]).map λk=>S1 k R.rows[l.pred].ql) (λx t=>by
   obtain⟨k,D,rfl⟩:=zE.1 t;refine Cx s ?_;intro v I;have:=wD k 0 ((qB _ k).1 D).2 v I;rw[C] at this;exact this) (by rw[g];omega) b j
  have f:∀x,¬RB rX l.pred x:=λx q=>by cases q
  refine⟨M::vs,?_,by simp[E],λi F U y u=>?_⟩
  .unfold d8;rw[p,r];simp only[J,H]
  .cases i with
   |zero=>
    simp only[fz,zr] at y u;subst y;subst u;refine⟨n.lit,n.before.congr λx=>⟨λq=>by rcases q with q|q<;>exact q.elim,λq=>z9 q (f x)⟩,n.qp.congr λx=>?_,n.all.congr λx=>?_,?_⟩
    .rw[pU h w d];exact⟨λq=>⟨q,f x⟩,λq=>q.1⟩
    .rw[pU h w d];exact⟨λq=>q.resolve_left id,ze⟩
    .have e:(R.rows.map (·.count)).getD l.pred 0=R.rows[l.pred].count:=by simp[List.getD,d]
     have:=n.few;rw[g] at this;rw[e];simpa using this
   |succ i=>exact G i F U (by simpa using y) (by simpa using u)
def Dq{g:List Nat}{W wd:Nat}(e:W=zL wd)(k:∀a∈g,a<=3){R:zu}(h:qv g W R)(o:R.count<=1048576)(c:Nat)(f:3*(W+1)<=c)(s:Nat):∀(b:List zs),(∀r∈b,∀l∈r.qc,l.pred<g.length)->∃d,RY c wd R s b=some d/\kd g W rX (zxx g R) (R.rows.map (·.count)) d (b.filter λr=>decide (r.qh=s))
 |[],_=>⟨[],rfl,kd.nil⟩
 |r::b,n=>by
  obtain⟨d,m,j⟩:=Dq e k h o c f s b (λx t=>n x (by simp[t]));unfold RY;by_cases i:r.qh=s
  .obtain⟨vs,u,q,p⟩:=B5 e k h o c f r.qc (n r (by simp));rw[zb i,u,m];refine⟨⟨r,vs⟩::d,rfl,?_⟩;rw[List.filter_cons_of_pos (by simp[i])];exact kd.cons ⟨rfl,q,p⟩ j
  .rw[za i];refine⟨d,m,?_⟩;rw[List.filter_cons_of_neg (by simp[i])];exact j
def kd.length{b:List Nat}{W:Nat}{D0 D:DB}{c:List Nat}{a:List yb}{rs:List zs}(h:kd b W D0 D c a rs):a.length=rs.length:=by
 induction h with
 |nil=>rfl
 |cons _ _ d=>simp[d]
end
section
open Classical
variable {mr mx:Nat}
def l9(D:DB)(mr:Nat):Prop:=∃n,n<=mr/\fE D n
noncomputable def zxo(rs:List zs)(mr:Nat):Nat->Nat->DB->Option (DB×Nat)
 |0,_,_=>none
 |left+1,k,D=>
  if l9 (zx4 rs (k+1) D) mr then
   if ∀p x,RB (zx4 rs (k+1) D) p x->RB D p x then some (zx4 rs (k+1) D,k+1)
   else zxo rs mr left (k+1) (zx4 rs (k+1) D)
  else none
noncomputable def zxr(rules:List zs)(mr mx:Nat):Nat->Nat->Nat->DB->Option (DB×Nat)
 |0,_,k,D=>some (D,k)
 |n+1,s,k,D=>
  if (rules.filter λr=>decide (r.qh=s))=[] then zxr rules mr mx n (s+1) k D
  else match zxo (rules.filter λr=>decide (r.qh=s)) mr (mx-k) k D with
   |none=>none
   |some (D',k')=>zxr rules mr mx n (s+1) k' D'
noncomputable def zy3(fs:List qV):DB:=λp x=>if ∃f∈fs,f.pred=p/\f.row=x then some 0 else none
noncomputable def zzm(S:qJ)(mr mx:Nat):Option (DB×Nat):=if l9 (zy3 S.facts) mr then zxr S.rules mr mx S.qj.length 0 0 (zy3 S.facts) else none
def Qk(rs:List zs)(k:Nat)(D:DB):∀p x,RB D p x->RB (zx4 rs k D) p x:=by
 intro p x h;unfold RB zx4 at *;rcases a:D p x with _|m;rw[a] at h;cases h;rfl
def BS{rs:List zs}{k:Nat}{D:DB}:∀p x,qU rs D p x->RB (zx4 rs k D) p x:=by
 intro p x h;unfold RB zx4;rcases a:D p x with _|m;simp only;rw[zb h];rfl;rfl
def Nz{c:List Nat}{W wd:Nat}(A:W=zL wd)(C:∀a∈c,a<=3)(E:mr<=1048576){rs:List zs}(hs:se rs c W)(B:Nat)(I:(∀r∈rs,fX W r<=B)/\3*(W+1)<=B):
  ∀(n:Nat) (first:Bool) (v:List yb) (R:zu) (D0:DB),qv c W R->R.count<=mr->R.qx<=mx->(∀p x,RB D0 p x->RB (zxx c R) p x)->kd c W D0 (zxx c R) (R.rows.map (·.count)) v rs->(first=false->∀p x,qU rs D0 p x->RB (zxx c R) p x)->B+(mx-R.qx)<n →
  ∃k ok,kL wd mr mx n first v R=some (k,ok)/\(ok=false->zxo rs mr (mx-R.qx) R.qx (zxx c R)=none)/\(ok=true->qv c W k/\k.count<=mr/\k.qx<=mx/\zxo rs mr (mx-R.qx) R.qx (zxx c R)=some (zxx c k,k.qx)):=by
 intro n;induction n with
 |zero=>intro first v R D0 _ _ _ _ _ _ h;omega
 |succ n O=>
  intro first v R D0 L Y hk G hw F hn
  unfold kL;by_cases s:R.qx≥mx;rw[zb s];refine⟨R,false,rfl,λ_=>?_,λq=>by cases q⟩;rw[show mx-R.qx=0 by omega];rfl;rw[za s];obtain⟨left,j⟩:∃left,mx-R.qx=left+1:=⟨mx-R.qx-1,by omega⟩;obtain⟨f,D,ok,M,y,H,T,X,a6⟩:=NX A C E n hs ⟨λr U=>by have:=I.1 r U;omega,by have:=I.2;omega⟩ first L Y G hw F
  rw[M];have b:=y.card C;have d:=L.card C;rw[j];cases ok;refine⟨f,false,rfl,λ_=>?_,λq=>by cases q⟩;unfold zxo;rw[za];rintro⟨m,m1,N⟩;have:=sd b N T;have:=X rfl;omega;obtain⟨w,u,Z⟩:=a6 rfl;simp only;have t:l9 (zxx c f) mr:=⟨f.count,w,b⟩;have g:∀p x,RB (zxx c R) p x->RB (zxx c f) p x:=by rw[u];exact Qk _ _ _
  by_cases i:f.count>R.count;rw[zb i];have o:¬∀p x,RB (zxx c f) p x->RB (zxx c R) p x:=λq=>by
   have:=sd b d q;omega
  obtain⟨Q,z,S,J,K⟩:=O false D f (zxx c R) y w (by omega) g Z (λ_ p x P=>by rw[u];exact BS p x P) (by omega);have V:mx-f.qx=left:=by omega
  have e:zxo rs mr (left+1) R.qx (zxx c R)=zxo rs mr left f.qx (zxx c f):=by
   rw[zxo,←u,zb t,za o,H]
  rw[V] at J K;exact⟨Q,z,S,λq=>by rw[e];exact J q,λq=>by rw[e];exact K q⟩;rw[za i];have l:=Oc d b g (by omega);refine⟨f,true,rfl,λq=>(by cases q),λ_=>⟨y,w,by omega,?_⟩⟩;rw[zxo,←u,zb t,zb l,H]
structure ef (rs:List zs) (ar:List Nat) (W:Nat):Prop where
 rules:∀r∈rs,nN r ar W
 apart:∀r∈rs,∀r'∈rs,r.qh=r'.qh->∀l∈r.qw,l.pred≠r'.head.pred
def ef.jm{a:List zs}{d:List Nat}{W:Nat}(h:ef a d W)(s:Nat):se (a.filter λr=>decide (r.qh=s)) d W:=by
 refine⟨λr c=>h.rules r (xj.1 c).1,λr c g b l i=>h.apart r (xj.1 c).1 g (xj.1 b).1 ?_ l i⟩;have f:=(xj.1 c).2;have e:=(xj.1 b).2;simp at f e;omega
def MI{e:List Nat}{W wd:Nat}(f:W=zL wd)(C:∀a∈e,a<=3)(t:mr<=1048576){b:List zs}(A:ef b e W)(B:Nat)(m:(∀r∈b,fX W r<=B)/\3*(W+1)<=B)(c:Nat)(M:B+mx<c):
  ∀(n s:Nat) (R:zu),qv e W R->R.count<=mr->R.qx<=mx->∃h ok,ku c wd mr mx b n s R=some (h,ok)/\(ok=false->zxr b mr mx n s R.qx (zxx e R)=none)/\(ok=true->qv e W h/\h.count<=mr/\zxr b mr mx n s R.qx (zxx e R)=some (zxx e h,h.qx)):=by
 intro n;induction n with
 |zero=>intro s R i k _;exact⟨R,true,rfl,λq=>(by cases q),λ_=>⟨i,k,rfl⟩⟩
 |succ n w=>
  intro s R i k u;obtain⟨z,J,v⟩:=Dq f C i (by omega) c (by have:=m.2;omega) s b (λr o l K=>((A.rules r o).qc l K).1);have d:=v.length;unfold ku pj;rw[J];simp only;unfold zxr;by_cases j:(b.filter λr=>decide (r.qh=s))=[];rw[zb j];rw[j] at d;rw[za (by simp at d;simp[d])];simp only;exact w (s+1) R i k u;rw[za j];have g:z.length>0:=by rw[d];exact List.length_pos_iff.2 j
  rw[zb g];obtain⟨y,ok,F,H,E⟩:=Nz f C t (mx:=mx) (A.jm s) B ⟨λr o=>m.1 r (xj.1 o).1,m.2⟩ c true z R rX i k u (λp x q=>by cases q) v (λq=>by cases q) (by omega);rw[F];cases ok;refine⟨y,false,rfl,λ_=>?_,λq=>by cases q⟩;rw[H rfl];obtain⟨G,D,L,I⟩:=E rfl;simp only;rw[I];exact w (s+1) y G D L
def C1{d:List Nat}{W:Nat}(u:∀a∈d,a<=3){mr:Nat}(e:mr<=1048576){k:Nat}{D0:DB}{c0:List Nat}:∀(fs:List qV) (R:zu),(∀f∈fs,f.pred<d.length/\RK (d.getD f.pred 0) f.row/\RZ W f.row)->Sv d W k D0 c0 R->R.count<=mr->∃c ok,kO mr fs R=some (c,ok)/\Sv d W k D0 c0 c/\(∀q x,x∈R.qp.getD q []->x∈c.qp.getD q [])/\(∀q x,x∈c.qp.getD q []->x∈R.qp.getD q []∨∃f∈fs,f.pred=q/\f.row=x)/\(ok=true->c.count<=mr/\∀f∈fs,RB (zxx d c) f.pred f.row)/\(ok=false->c.count>mr)
 |[],R,_,n,o=>⟨R,true,rfl,n,λq x b=>b,λq x b=>zh b,λ_=>⟨o,λf h=>by cases h⟩,λq=>by cases q⟩
 |f::fs,R,h,n,o=>by
  obtain⟨D,K,M⟩:=h f (by simp);obtain⟨s,ok,A,i,_,I,v,y,L,C⟩:=n.add u D K M o e;unfold kO;rw[A];cases ok with
  |false=>
   refine⟨s,false,rfl,i,v,λq x b=>?_,(λq=>by cases q),C⟩;rcases y q x b with z|⟨l,p⟩
   .exact zh z
   .exact ze ⟨f,by simp,l.symm,p.symm⟩
  |true=>
   simp only;obtain⟨H,m,B,r,w,F,t,G⟩:=C1 u e fs s (λx b=>h x (by simp[b])) i (L rfl);refine⟨H,m,B,r,λq x b=>w q x (v q x b),λq x b=>?_,λq=>⟨(t q).1,λg j=>?_⟩,G⟩
   .rcases F q x b with z|⟨g,J,E⟩
    .rcases y q x z with z|⟨l,p⟩
     .exact zh z
     .exact ze ⟨f,by simp,l.symm,p.symm⟩
    .exact ze ⟨g,by simp[J],E⟩
   .rcases zy.1 j with rfl|j
    .exact i.grow r w I
    .exact(t q).2 g j
structure p9 (S:qJ):Prop where
 small:∀a∈S.qj,a<=3
 facts:∀f∈S.facts,f.pred<S.qj.length/\RK (S.qj.getD f.pred 0) f.row/\RZ (zL S.qf) f.row
 rules:ef S.rules S.qj (zL S.qf)
def K2(S:qJ):qv S.qj (zL S.qf) ⟨S.qj.map (xd S.qf),0,0,0,[]⟩:=by
 refine⟨by simp,λp g=>?_,?_⟩;have b:p<S.qj.length:=by simpa using g
 simp only[xV];refine⟨vF.new _ _,Dx _ _,by rw[pT,R6 _ b],λk e=>?_⟩;obtain⟨d,c⟩:=(qB _ k).1 e;rw[eb _ _ k (by rintro rfl;have:=(lh S.qj[p]).1;rw[pT] at d;simp at d;omega)] at c;cases c;show 0=_;rw[mT];have:∀l:List Nat,(l.map ((λT:zj=>T.count) ∘ xd S.qf)).sum=0:=by
  intro l;induction l with
  |nil=>rfl
  |cons a l f=>simp only[xZ,vN,f];rfl
 exact(this _).symm
def Eh(S:qJ)(p:Nat)(x:zi):zxx S.qj ⟨S.qj.map (xd S.qf),0,0,0,[]⟩ p x=none:=by
 unfold zxx;split;rename_i a;have b:p<(S.qj.map (xd S.qf)).length:=by simpa using a.1
 show ut ((S.qj.map (xd S.qf)).getD p zj.zero) x=none;rw[R6 _ b,xV,(vF.new _ _).mark x a.2.1,eb];intro e;have:=congrArg List.length e;rw[qG,a.2.1,pT] at this;have:=lh S.qj[p];simp at *;omega;rfl
def MH{S:qJ}(h:p9 S)(t:mr<=1048576):∃N,∀b,N<=b->∃d,mz b S mr mx=some d/\(d=none->zzm S mr mx=none)/\∀R,d=some R->qv S.qj (zL S.qf) R/\R.count<=mr/\zzm S mr mx=some (zxx S.qj R,R.qx):=by
 obtain⟨B,l⟩:∃B,(∀r∈S.rules,fX (zL S.qf) r<=B)/\3*(zL S.qf+1)<=B:=by
  have:∀w:List zs,∃B,∀r∈w,fX (zL S.qf) r<=B:=by
   intro w;induction w with
   |nil=>exact⟨0,λr g=>by cases g⟩
   |cons a w M=>
    obtain⟨B,l⟩:=M;refine⟨B+fX (zL S.qf) a,λr g=>?_⟩;rcases zy.1 g with rfl|g;omega;have:=l r g;omega
  obtain⟨B,l⟩:=this S.rules;exact⟨B+3*(zL S.qf+1),λr g=>by have:=l r g;omega,by omega⟩
 refine⟨B+mx+1,λb Y=>?_⟩;have u:=Sv.clear (K2 S);have Q:qD ⟨S.qj.map (xd S.qf),0,0,0,[]⟩=fH S:=rfl;obtain⟨R,ok,J,i,a3,G,V,X⟩:=C1 h.small t S.facts (fH S) h.facts u (zv _);have o:∀q x,x∉(fH S).qp.getD q []:=λq x j=>by
  have k:x∈(List.replicate (S.qj.map (xd S.qf)).length ([]:List zi)).getD q []:=j;have:∀n,(List.replicate n ([]:List zi)).getD q []=[]:=λn=>by by_cases T:q<n<;>simp[List.getD,T]
  rw[this] at k;cases k
 have v:∀p x,RB (zxx S.qj R) p x->RB (zy3 S.facts) p x:=by
  intro p x j;unfold RB at j ⊢;rw[i.abs,Eh] at j;by_cases e:x∈R.qp.getD p [];unfold zy3;rw[zb ((G p x e).resolve_left (o p x))];rfl;rw[za e] at j;cases j
 unfold mz;rw[J];cases ok;refine⟨none,rfl,λ_=>?_,λR q=>by cases q⟩;unfold zzm;rw[za];rintro⟨m,m1,K⟩;have:=sd (i.inv.card h.small) K v;have:=X rfl;omega;obtain⟨E,I⟩:=V rfl;have C:R.qx=0:=i.qx;have s:zxx S.qj R=zy3 S.facts:=by
  funext p x;have z:=i.abs p x;rw[Eh] at z;rw[z];unfold zy3;by_cases y:∃f∈S.facts,f.pred=p/\f.row=x;rw[zb y];obtain⟨f,L,rfl,rfl⟩:=y;have:=I f L;unfold RB at this;rw[z] at this;by_cases e:f.row∈R.qp.getD f.pred [];rw[zb e];rw[za e] at this;cases this;rw[za y,za];intro e;exact y ((G p x e).resolve_left (o p x))
 have D:l9 (zy3 S.facts) mr:=⟨R.count,E,by rw[←s];exact i.inv.card h.small⟩;obtain⟨P,A,U,F,H⟩:=MI rfl h.small t (mx:=mx) h.rules B l b (by omega) S.qj.length 0 R i.inv E (by omega);simp only[U,jC];rw[C,s] at F H;have c:zzm S mr mx=zxr S.rules mr mx S.qj.length 0 0 (zy3 S.facts):=by
  unfold zzm;rw[zb D]
 cases A;exact⟨none,rfl,λ_=>by rw[c];exact F rfl,λR q=>by cases q⟩;refine⟨some P,rfl,(λq=>by cases q),λR2 q=>?_⟩;simp only[zr] at q;subst q;obtain⟨O,Z,W⟩:=H rfl;exact⟨O,Z,by rw[c];exact W⟩
end
section
variable {hs:List Nat}
def Sz(V:Nat):List Nat->Nat
 |[]=>0
 |h::r=>V*(h+Sz V r)+1
def SB(V:Nat):List Nat->List Nat->Nat->Nat
 |h::r,f::a,d=>(V-f)*(h+Sz V r)+1+(match d with|0=>0|d+1=>SB V r a d)
 |_,_,_=>0
def iO(V:Nat):∀(hs b:List Nat) {d e:Nat},d<=e->SB V hs b d<=SB V hs b e
 |[],_,_,_,_=>by simp[SB]
 |_::_,[],_,_,_=>by simp[SB]
 |h::r,f::a,0,e,_=>by simp[SB]
 |h::r,f::a,d+1,0,q=>by omega
 |h::r,f::a,d+1,e+1,q=>by
  have:=iO V r a (d:=d) (e:=e) (by omega);simp only[SB];omega
def Cv(V:Nat)(hs a:List Nat):SB V hs (a.set 0 0) 0<=Sz V hs:=by
 rcases hs with _|⟨h,r⟩;simp[SB];cases a<;>simp[SB,Sz]
def Bc(V:Nat){v:Nat}(l:v<V):∀(d:Nat) (hs c:List Nat),d<hs.length->d<c.length->c.getD d 0<=v->SB V hs ((c.set d (v+1)).set (d+1) 0) (d+1)+hs.getD d 0*(v+1-c.getD d 0)<=SB V hs c d
 |0,h::r,f::e,_,_,g=>by
  have i:=Cv V r e;simp only[nZ,nS,SB,List.getD_cons_zero] at g ⊢;obtain⟨a,o⟩:∃a,V=a+(v+1):=⟨V-(v+1),by omega⟩;obtain⟨b,p⟩:∃b,v=b+f:=⟨v-f,by omega⟩;have j:V-(v+1)=a:=by omega
  have n:V-f=a+(b+1):=by omega
  have k:v+1-f=b+1:=by omega
  rw[j,n,k];have s:(a+(b+1))*(h+Sz V r)=a*(h+Sz V r)+((b+1)*h+(b*Sz V r+Sz V r)):=by rw[lm,Nat.mul_add (b+1),lm b 1 (Sz V r),Nat.one_mul]
  have q:h*(b+1)=(b+1)*h:=Nat.mul_comm _ _;omega
 |d+1,h::r,f::e,i,m,g=>by
  have:=Bc V l d r e (by simpa using i) (by simpa using m) (by simpa using g);simp only[nS,SB,List.getD_cons_succ] at this ⊢;omega
 |_,[],_,h,_,_=>by simp at h
 |_,_::_,[],_,h,_=>by simp at h
def CP(V:Nat):∀(d:Nat) (hs a:List Nat),d<hs.length->d<a.length->hs.getD d 0*(V-a.getD d 0)+1<=SB V hs a d/\∀b,b<d->SB V hs a b+(hs.getD d 0*(V-a.getD d 0)+1)<=SB V hs a d
 |0,h::r,f::c,_,_=>by
  refine⟨?_,λb e=>by omega⟩;simp only[SB,List.getD_cons_zero,Nat.mul_add];rw[Nat.mul_comm h];omega
 |d+1,h::r,f::c,i,j=>by
  obtain⟨k,g⟩:=CP V d r c (by simpa using i) (by simpa using j);simp only[SB,List.getD_cons_succ];refine⟨by omega,λb e=>?_⟩;cases b with
  |zero=>simp only;omega
  |succ b=>have:=g b (by omega);simp only;omega
 |_,[],_,h,_=>by simp at h
 |_,_::_,[],_,h=>by simp at h
def SM(V:Nat)(hs a:List Nat)(d:Int):Nat:=if d<0 then 0 else SB V hs a d.toNat
def IR(V:Nat)(hs a:List Nat){d e:Int}(h:d<=e):SM V hs a d<=SM V hs a e:=by
 unfold SM;split;omega;split;omega;exact iO V hs a (by omega)
structure Tj (V:Nat) (hs:List Nat) (J:z7):Prop where
 wide:∀i,(J.ja.getD i yS.zero).rows.qf<=V
 jf:∀p,p<hs.length->(J.jf.getD p []).length=hs.getD p 0
 vars:J.vars=hs.length
 five:hs.length<=5
 jh:∀p,p<hs.length->J.jh.getD p 0<(p:Int)
 last:J.last<(hs.length:Int)
 flen:J.from.length=5
def Tj.same{V:Nat}{J a:z7}(h:Tj V hs J)(s:qP J a):Tj V hs a:=by
 rw[s];exact⟨h.wide,h.jf,h.vars,h.five,h.jh,h.last,h.flen⟩
def Lr{T:zj}{a f v:Nat}(h:yB T a f=some v):f<T.qf/\v<T.qf:=by
 unfold yB at h;split at h;rename_i q;simp only at h;split at h;cases h;cases h;exact⟨q.2,by omega⟩;cases h
def Ag{V:Nat}(hs:List (Nat×Nat)):∀(n:Nat) (J:z7) (at' a b m:Nat) (f:z7) (o:Option Nat),(∀i,(J.ja.getD i yS.zero).rows.qf<=V)->J.jg=(m:Int)->m+hs.length*(V-at')+1<9223372036854775808+a->(a=0∨at'<V)->a<=hs.length->kY n J hs at' a b=some (f,o)->∃e:Nat,f.jg=(e:Int)/\qP J f/\(o=none->e+a<=m+hs.length*(V-at')+1)/\∀v,o=some v->at'<=v/\(0<hs.length->v<V)/\e+a<=m+hs.length*(v+1-at')
 |0,_,_,_,_,_,_,_,_,_,_,_,_,h=>by simp[kY] at h
 |n+1,J,at',a,b,m,f,o,y,w,H,d,D,h=>by
  simp only[kY] at h;by_cases k:a<hs.length
  .rw[zb k] at h;unfold vP at h;by_cases g:vI J (hs.getD b (0,0))=true
   .rw[zb g] at h;have E:m+1<9223372036854775808:=by
     rcases d with rfl|d
     .omega
     .have:hs.length*1<=hs.length*(V-at'):=mL _ (by omega);omega
    have z:IntKind.i64.wrap (J.jg+1)=((m+1:Nat):Int):=by rw[w,IntKind.wrap_i64];omega
    rw[z] at h;cases s:yB (J.ja.getD (hs.getD b (0,0)).1 yS.zero).rows ((J.ja.getD (hs.getD b (0,0)).1 yS.zero).qi.getD (hs.getD b (0,0)).2 0) at' with
    |none=>
     rw[s] at h;simp only[zr,yc] at h;obtain⟨rfl,rfl⟩:=h;refine⟨m+1,rfl,rfl,λ_=>?_,λv q=>by cases q⟩;rcases d with rfl|d
     .omega
     .have:hs.length*1<=hs.length*(V-at'):=mL _ (by omega);omega
    |some v=>
     rw[s] at h;simp only at h;obtain⟨M,F⟩:=Lr s;have G:=y (hs.getD b (0,0)).1;have t:at'<V:=by omega
     have x:v<V:=by omega
     by_cases c:v>at'
     .rw[zb c,zb c] at h;have L:hs.length*(V-at')=hs.length*(V-v)+hs.length*(v-at'):=by rw[←Nat.mul_add];congr 1;omega
      have I:hs.length*1<=hs.length*(v-at'):=mL _ (by omega);obtain⟨e,A,j,r,l⟩:=Ag hs n {J with jg:=((m+1:Nat):Int)} v (0+1) _ (m+1) f o (λi=>y i) rfl (by omega) (ze x) (by omega) h;refine⟨e,A,?_,λq=>?_,λu q=>?_⟩
      .unfold qP at j ⊢;rw[j]
      .have:=r q;omega
      .obtain⟨B,p,C⟩:=l u q;refine⟨by omega,p,?_⟩;have K:hs.length*(u+1-at')=hs.length*(u+1-v)+hs.length*(v-at'):=by rw[←Nat.mul_add];congr 1;omega
       omega
     .rw[za c,za c] at h;obtain⟨e,A,j,r,l⟩:=Ag hs n {J with jg:=((m+1:Nat):Int)} at' (a+1) _ (m+1) f o (λi=>y i) rfl (by omega) (ze t) (by omega) h;refine⟨e,A,?_,λq=>?_,λu q=>?_⟩
      .unfold qP at j ⊢;rw[j]
      .have:=r q;omega
      .obtain⟨B,p,C⟩:=l u q;exact⟨B,p,by omega⟩
   .rw[za g] at h;simp only[zr,yc] at h;obtain⟨rfl,rfl⟩:=h;refine⟨m,w,rfl,λ_=>?_,λv q=>by cases q⟩;rcases d with rfl|d
    .omega
    .have:hs.length*1<=hs.length*(V-at'):=mL _ (by omega);omega
  .rw[za k] at h;simp only[zr,yc] at h;obtain⟨rfl,rfl⟩:=h;refine⟨m,w,rfl,(λq=>by cases q),λv q=>?_⟩;cases q;refine⟨zf _,λq=>?_,?_⟩
   .rcases d with rfl|d
    .omega
    .exact d
   .have:at'+1-at'=1:=by omega
    rw[this];omega
def Lw{V:Nat}{J:z7}(h:Tj V hs J){n d f m:Nat}(t:d<hs.length)(e:J.jg=(m:Int))(k:m+hs.getD d 0*(V-f)+1<9223372036854775808){c:z7}{o:Option Nat}(a:fe n J d f=some (c,o)):∃b:Nat,c.jg=(b:Int)/\qP J c/\(o=none->b<=m+hs.getD d 0*(V-f)+1)/\∀v,o=some v->f<=v/\v<V/\b<=m+hs.getD d 0*(v+1-f):=by
 unfold fe at a;split at a;simp only[zr,yc] at a;obtain⟨rfl,rfl⟩:=a;exact⟨m,e,rfl,λ_=>by omega,λv q=>by cases q⟩;rename_i i;rw[←h.jf d t] at k ⊢;obtain⟨b,s,g,j,p⟩:=Ag _ n J f 0 0 m c o h.wide e (by omega) (zh rfl) (zv _) a;refine⟨b,s,g,λq=>by have:=j q;omega,λv q=>?_⟩;obtain⟨l,r,u⟩:=p v q;exact⟨l,r (by omega),by omega⟩
def FO(v:Nat):∀(hs:List (Nat×Nat)) (J:z7),∃a,hs.foldl (vf v) J={J with ja:=a}/\∀i,(a.getD i yS.zero).rows=(J.ja.getD i yS.zero).rows
 |[],J=>⟨J.ja,rfl,λ_=>rfl⟩
 |h::r,J=>by
  obtain⟨g,b,f⟩:∃a,vf v J h={J with ja:=a}/\∀i,(a.getD i yS.zero).rows=(J.ja.getD i yS.zero).rows:=by
   unfold vf;split
   .exact⟨J.ja,rfl,λ_=>rfl⟩
   .refine⟨_,rfl,λi=>?_⟩;rw[nV];split
    .rename_i q;rw[q.1]
    .rfl
  obtain⟨e,d,c⟩:=FO v r (vf v J h);refine⟨e,?_,λi=>?_⟩
  .rw[uu,d,b]
  .rw[c,b];exact f i
def Tj.take{V:Nat}{J:z7}(h:Tj V hs J){d v:Nat}(j:d<hs.length):Tj V hs (us J d v)/\(us J d v).jg=J.jg/\(us J d v).from=(J.from.set d (v+1)).set (d+1) 0:=by
 have g:=h.five;have a:=h.flen;have c:(if d+1<5 then(J.from.set d (v+1)).set (d+1) 0 else J.from.set d (v+1))=(J.from.set d (v+1)).set (d+1) 0:=by
  split;rfl;exact(List.set_eq_of_length_le (by simp;omega)).symm
 unfold us;rw[za (by omega),c];obtain⟨f,b,e⟩:=FO v (J.jf.getD d []) {J with jd:=J.jd.set d v,«from»:=(J.from.set d (v+1)).set (d+1) 0};rw[b];exact⟨⟨λi=>by rw[e];exact h.wide i,h.jf,h.vars,h.five,h.jh,h.last,by simp[a]⟩,rfl,rfl⟩
def oC{V:Nat}{hs:List Nat}{B:Nat}(w:B<9223372036854775808):∀(n:Nat) (J:z7) (d:Int) (m:Nat) (b:z7) (o:Bool),Tj V hs J->J.jg=(m:Int)->d<=hs.length->m+SM V hs J.from d<=B->qS n J d=some (b,o)->Tj V hs b/\∃r:Nat,b.jg=(r:Int)/\r<=B/\(o=true->r+SM V hs b.from hs.length<=B)
 |0,_,_,_,_,_,_,_,_,_,h=>by simp[qS] at h
 |n+1,J,d,m,b,o,c,z,T,l,h=>by
  simp only[qS] at h;have S:=c.five;have N:=c.vars;by_cases A:0<=d/\d<(J.vars:Int)/\d<5
  .rw[zb A] at h;obtain⟨k,rfl⟩:∃k:Nat,d=(k:Int):=⟨d.toNat,by omega⟩;have e:k<hs.length:=by omega
   have f:k<J.from.length:=by rw[c.flen];omega
   simp only[Int.toNat_natCast] at h;have p:SM V hs J.from (k:Int)=SB V hs J.from k:=by unfold SM;rw[za (by omega),Int.toNat_natCast]
   rw[p] at l;obtain⟨P,M⟩:=CP V k hs J.from e f;cases j:fe n J k (J.from.getD k 0) with
   |none=>rw[j] at h;simp at h
   |some x=>
    obtain⟨i,C⟩:=x;rw[j] at h;obtain⟨s,t,u,E,L⟩:=Lw c e z (by omega) j;have a:=c.same u;have g:i.from=J.from:=by rw[u]
    cases C with
    |none=>
     simp only at h;have y:=a.jh k e;have:=E rfl;refine oC w n i _ s b o a t (by omega) ?_ h;rw[g];unfold SM;split
     .omega
     .have:=M (i.jh.getD k 0).toNat (by omega);omega
    |some v=>
     simp only at h;obtain⟨F,D,R⟩:=L v rfl;obtain⟨I,O,G⟩:=a.take (v:=v) e;have H:=Bc V D k hs J.from e f F;have K:=iO V hs ((J.from.set k (v+1)).set (k+1) 0) (Nat.le_add_right k 1);refine oC w n (us i k v) _ s b o I (by rw[O,t]) (by split<;>omega) ?_ h;rw[G,g];split
     .unfold SM;rw[za (by omega),Int.toNat_natCast];omega
     .unfold SM;rw[za (by omega),show((k:Int)+1).toNat=k+1 from by omega];omega
  .rw[za A] at h;simp only[zr,yc] at h;obtain⟨rfl,rfl⟩:=h;refine⟨c,m,z,by omega,λq=>?_⟩;have Q:d≥(J.vars:Int):=by simpa using q
   rw[show d=(hs.length:Int) from by omega] at l;exact l
end
section
variable {R R':zu}{mr:Nat}
def M2{V:Nat}{hs:List Nat}{B:Nat}(g:B<9223372036854775808){n:Nat}{J b:z7}{m:Nat}{o:Bool}(s:Tj V hs J)(i:J.jg=(m:Int))(p:J.ql<=hs.length)(k:m+SM V hs J.from J.ql<=B)(h:fB n J=some (b,o)):Tj V hs b/\b.ql<=hs.length/\∃d:Nat,b.jg=(d:Int)/\d+SM V hs b.from b.ql<=B:=by
 unfold fB at h;rcases e:qS n J J.ql with _|x;rw[e] at h;simp at h;obtain⟨c,f⟩:=x;rw[e] at h;simp only[zr,yc] at h;obtain⟨rfl,rfl⟩:=h;obtain⟨a,d,r,l,j⟩:=oC g n J J.ql m c f s i p k e;refine⟨⟨a.wide,a.jf,a.vars,a.five,a.jh,a.last,a.flen⟩,?_,d,r,?_⟩;have:=a.last;show(if f=true then c.last else -1)<=_;split<;>omega
 show d+SM V hs c.from (if f=true then c.last else -1)<=B;split;rename_i q;have:=j q;have:=IR V hs c.from (Int.le_of_lt a.last);omega;simp only[SM];rw[zb (by omega)];exact l
def SI(R R':zu)(c:Nat):Prop:=R'.qx=R.qx/\∀k:Nat,R.jg=(k:Int)->k+c<9223372036854775808->∃a:Nat,R'.jg=(a:Int)/\a<=k+c
def SI.trans{R a b:zu}{c d:Nat}(h:SI R a c)(g:SI a b d):SI R b (c+d):=
 ⟨g.1.trans h.1,λk f o=>by
  obtain⟨l,i,n⟩:=h.2 k f (by omega);obtain⟨e,j,m⟩:=g.2 l i (by omega);exact⟨e,j,by omega⟩⟩
def SI.mono{c d:Nat}(h:SI R R' c)(i:c<=d):SI R R' d:=
 ⟨h.1,λk a g=>by
  obtain⟨e,b,f⟩:=h.2 k a (by omega);exact⟨e,b,by omega⟩⟩
def SI.refl(R:zu):SI R R 0:=⟨rfl,λk a _=>⟨k,a,by omega⟩⟩
def CM{p:Nat}{x:zi}{ok:Bool}(h:jM mr R p x=some (R',ok)):SI R R' 0:=by
 have:R'.jg=R.jg/\R'.qx=R.qx:=by
  unfold jM at h;split at h;split at h;cases h;exact⟨rfl,rfl⟩;cases h;exact⟨rfl,rfl⟩;cases h
 exact⟨this.2,λk a _=>⟨k,by rw[this.1,a],by omega⟩⟩
def CN{V:Nat}{hs:List Nat}{B:Nat}(d:B<9223372036854775808){mr p:Nat}:∀(n:Nat) (R:zu) (J:z7) (m:Nat) (R':zu),Tj V hs J->J.jg=(m:Int)->J.ql<=hs.length->m+SM V hs J.from J.ql<=B->vG mr p n R J=some (R',true)->SI R R' B
 |0,_,_,_,_,_,_,_,_,h=>by simp[vG] at h
 |n+1,R,J,m,R',u,i,t,l,h=>by
  simp only[vG] at h;cases b:fB n J with
  |none=>rw[b] at h;simp at h
  |some x=>
   obtain⟨a,o⟩:=x;rw[b] at h;obtain⟨q,s,e,f,j⟩:=M2 d u i t l b;cases o with
   |false=>
    simp only[zr,yc,and_true] at h;subst h;refine⟨rfl,λk g v=>⟨k+e,?_,by omega⟩⟩;show IntKind.i64.wrap (R.jg+a.jg)=_;rw[g,f,IntKind.wrap_i64];omega
   |true=>
    simp only at h;cases c:jM mr R p (zG a.head a.jd) with
    |none=>rw[c] at h;simp at h
    |some y=>
     obtain⟨r,ok⟩:=y;rw[c] at h;cases ok with
     |false=>simp at h
     |true=>
      have:=(CM c).trans (CN d n r a e R' q f s j h);exact this.mono (by omega)
def Sr(r:zs):List Nat:=(List.range r.vars).map λp=>(xn r p).length
def Fu{V:Nat}{r:zs}(m:r.vars<=5){b Ns:List zj}(l:∀T∈b,T.qf<=V){p n:Nat}(j:Sz V (Sr r)<9223372036854775808)(h:vG mr p n R (xB r b Ns)=some (R',true)):SI R R' (Sz V (Sr r)):=by
 obtain⟨c,g,k⟩:=Ay r b Ns;have e:c=-1∨c=0:=by rw[k];split<;>(try split)<;>simp
 rw[g] at h;have a:(Sr r).length=r.vars:=by simp[Sr]
 refine CN (V:=V) (hs:=Sr r) j n R _ 0 R' ⟨λi=>?_,λq d=>?_,a.symm,by omega,λq d=>?_,?_,rfl⟩ rfl ?_ ?_ h;show((b.map λT=>(⟨T,[0,0,0]⟩:yS)).getD i yS.zero).rows.qf<=V;by_cases f:i<b.length;rw[R6 _ (by simpa using f),xV];exact l _ (zt f);rw[ks,kM (by simpa using f)];exact zv _;show(((List.range 5).map (xn r)).getD q []).length=_;rw[a] at d;rw[R6 _ (by simp;omega),R6 _ (by omega)];simp[Sr];show((List.range 5).map λp=>xE r (p:Nat)).getD q 0<_;rw[a] at d;rw[R6 _ (by simp;omega)];simp only[xV,fc];exact(sQ r (by omega)).1;show xE r r.vars<_;rw[a];exact(sQ r (by omega)).1;show c<=_;omega;show 0+SM V (Sr r) [0,0,0,0,0] c<=_;rcases e with rfl|rfl;simp[SM];have:=Cv V (Sr r) [0,0,0,0,0];simpa [SM] using this
def qL(V:Nat)(r:zs):Nat:=r.qc.length*Sz V (Sr r)
structure T8 (r:zs):Prop where
 five:r.vars<=5
 none:r.qc=[]->r.vars=0
structure TC (V:Nat) (W:yb):Prop where
 rule:T8 W.rule
 len:W.qm.length=W.rule.qc.length
 wide:∀v∈W.qm,v.before.qf<=V/\v.qp.qf<=V/\v.all.qf<=V
def iE{V a f mr:Nat}{W:yb}(b:TC V W)(c:Sz V (Sr W.rule)<9223372036854775808):∀(n i:Nat) (R R':zu),jJ a f mr W n i R=some (R',true)->SI R R' (n*Sz V (Sr W.rule))
 |0,i,R,R',h=>by
  simp only[jJ,zr,yc,and_true] at h;subst h;exact(SI.refl R).mono (by omega)
 |n+1,i,R,R',h=>by
  have e:(n+1)*Sz V (Sr W.rule)=Sz V (Sr W.rule)+n*Sz V (Sr W.rule):=by rw[lm,Nat.one_mul];omega
  rw[e];simp only[jJ] at h;split at h
  .cases d:vG mr W.rule.head.pred a R (xB W.rule (RN W.qm i) (ju f R W.rule)) with
   |none=>rw[d] at h;simp at h
   |some x=>
    obtain⟨l,ok⟩:=x;rw[d] at h;cases ok with
    |false=>simp at h
    |true=>
     refine(Fu b.rule.five (λT g=>?_) c d).trans (iE b c n (i+1) l R' h);unfold RN at g;obtain⟨⟨v,j⟩,o,rfl⟩:=zE.1 g;obtain⟨m,k,p⟩:=b.wide v (List.fst_mem_of_mem_zipIdx o);simp only;split
     .exact m
     .split
      .exact k
      .exact p
  .exact(iE b c n (i+1) R R' h).mono (by omega)
def Ix{V b e:Nat}{W:yb}(c:TC V W)(j:qL V W.rule<9223372036854775808){first:Bool}(h:kG b e mr first R W=some (R',true)):SI R R' (qL V W.rule):=by
 have d:Sz V (Sr W.rule)<=qL V W.rule:=by
  unfold qL;rcases g:W.rule.qc with _|⟨a,l⟩;simp[Sr,c.rule.none g,Sz];have:1*Sz V (Sr W.rule)<=(a::l).length*Sz V (Sr W.rule):=dM _ (by simp);omega
 unfold kG at h;split at h;refine(Fu c.rule.five (λT i=>?_) (by omega) h).mono d;obtain⟨v,f,rfl⟩:=zE.1 i;exact(c.wide v f).2.2;rw[c.len] at h;exact iE c (by omega) _ 0 R R' h
def CF{V a d mr:Nat}{first:Bool}:∀(b:List yb) (R R':zu),(∀W∈b,TC V W)->(b.map λW=>qL V W.rule).sum<9223372036854775808->kS a d mr first b R=some (R',true)->SI R R' (b.map λW=>qL V W.rule).sum
 |[],R,R',_,_,h=>by
  simp only[kS,zr,yc,and_true] at h;subst h;exact SI.refl R
 |W::b,R,R',e,f,h=>by
  simp only[xZ,vN] at f ⊢;simp only[kS] at h;cases c:kG a d mr first R W with
  |none=>rw[c] at h;simp at h
  |some x=>
   obtain⟨g,ok⟩:=x;rw[c] at h;cases ok with
   |false=>simp at h
   |true=>exact(Ix (e W (by simp)) (by omega) c).trans (CF b g R' (λX i=>e X (by simp[i])) (by omega) h)
end
def Ih(T:zj)(a v m:Nat):(gN T a v m).1.qf=T.qf:=by
 unfold gN;split;rfl;exact nF _ _ _ _
def EG(m:Nat):∀(r:zi) (T:zj) (a l:Nat),(vh m T a l r).1.qf=T.qf
 |[],_,_,_=>rfl
 |v::r,T,a,l=>by
  simp only[vh];split
  .exact Ih _ _ _ _
  .rw[EG m r];unfold qk;split
   .rfl
   .exact nF _ _ _ _
def sZ:∀(rs:List zi) (T a:zj),xK rs T=some a->a.qf=T.qf
 |[],T,a,h=>by simp[xK] at h;rw[h]
 |r::rs,T,a,h=>by
  simp only[xK] at h;split at h
  .rw[sZ rs _ a h];unfold yx;split
   .exact EG 0 r T 0 0
   .rfl
  .cases h
def TN(V:Nat)(v:yF):Prop:=v.before.qf<=V/\v.qp.qf<=V/\v.all.qf<=V
def BD{d e:Nat}{v v':yF}{c:List zi}(g:TN (zL e) v)(h:dU d e v c=some v'):TN (zL e) v':=by
 unfold dU at h;split at h;cases h;split at h;rename_i b f a k j i;cases h;refine⟨?_,?_,?_⟩;show b.qf<=_;rw[sZ _ _ _ k];exact g.1;show f.qf<=_;rw[sZ _ _ _ j];exact zf _;show a.qf<=_;rw[sZ _ _ _ i];exact g.2.2;cases h
def B1{a f:Nat}{R:zu}:∀(b:List zw) (vs:List yF),d8 a f R b=some vs->vs.length=b.length/\∀v∈vs,TN (zL f) v
 |[],vs,h=>by simp[d8] at h;subst h;simp
 |l::b,vs,h=>by
  simp only[d8] at h;split at h
  .cases h
  .split at h
   .rename_i v c j d;cases h;obtain⟨i,g⟩:=B1 b c d;refine⟨by simp[i],λu e=>?_⟩;rcases zy.1 e with rfl|e
    .exact BD ⟨zf _,zf _,zf _⟩ j
    .exact g u e
   .cases h
def ot{b c:Nat}{R:zu}{s:Nat}:∀(rs:List zs) (a:List yb),(∀r∈rs,T8 r)->RY b c R s rs=some a->(∀W∈a,TC (zL c) W)/\(a.map λW=>qL (zL c) W.rule).sum<=(rs.map (qL (zL c))).sum
 |[],a,_,h=>by simp[RY] at h;subst h;simp
 |r::rs,a,e,h=>by
  simp only[RY] at h;simp only[xZ,vN];split at h
  .split at h
   .rename_i vs d m n;cases h;obtain⟨g,j⟩:=ot rs d (λx f=>e x (by simp[f])) n;obtain⟨l,k⟩:=B1 r.qc vs m;refine⟨λW i=>?_,?_⟩
    .rcases zy.1 i with rfl|i
     .exact⟨e r (by simp),l,k⟩
     .exact g W i
    .simp only[xZ,vN];omega
   .cases h
  .obtain⟨g,j⟩:=ot rs a (λx f=>e x (by simp[f])) h;exact⟨g,by omega⟩
def FD{b e:Nat}{k:List (List zi)}:∀(vs a:List yF),(∀v∈vs,TN (zL e) v)->dX b e k vs=some a->a.length=vs.length/\∀v∈a,TN (zL e) v
 |[],a,_,h=>by simp[dX] at h;subst h;simp
 |v::vs,a,f,h=>by
  simp only[dX] at h;split at h
  .rename_i m d g j;cases h;obtain⟨l,i⟩:=FD vs d (λu c=>f u (by simp[c])) j;refine⟨by simp[l],λu c=>?_⟩;rcases zy.1 c with rfl|c
   .split at g
    .exact BD (f v (by simp)) g
    .cases g;exact f _ (by simp)
   .exact i u c
  .cases h
def FT{c d:Nat}{p:List (List zi)}:∀(b a:List yb),(∀W∈b,TC (zL d) W)->gR c d p b=some a->(∀W∈a,TC (zL d) W)/\(a.map λW=>qL (zL d) W.rule).sum=(b.map λW=>qL (zL d) W.rule).sum
 |[],a,_,h=>by simp[gR] at h;subst h;simp
 |W::b,a,i,h=>by
  simp only[gR] at h;split at h
  .rename_i k f o q;cases h;obtain⟨n,j⟩:=FT b f (λu r=>i u (by simp[r])) q;have e:=i W (by simp);obtain⟨l,m⟩:=FD _ _ e.wide o;refine⟨λX g=>?_,by simp[j]⟩;rcases zy.1 g with rfl|g
   .exact⟨e.rule,l.trans e.len,m⟩
   .exact n X g
  .cases h
def TD(C:Nat)(R:zu):Prop:=∃k:Nat,R.jg=(k:Int)/\k<=R.qx*C
def DX{c mr mx C:Nat}(p:mx<=1048576)(q:1048576*C<9223372036854775808):∀(n:Nat) (first:Bool) (a:List yb) (R R':zu),(∀W∈a,TC (zL c) W)->(a.map λW=>qL (zL c) W.rule).sum<=C->TD C R->kL c mr mx n first a R=some (R',true)->TD C R'/\R'.qx<=mx
 |0,_,_,_,_,_,_,_,h=>by simp[kL] at h
 |n+1,first,a,R,R',j,s,⟨k,l,A⟩,h=>by
  simp only[kL] at h;split at h
  .cases h
  .rename_i u;unfold nX at h;cases f:kS n c mr first a (qD {R with qx:=R.qx+1}) with
   |none=>rw[f] at h;simp at h
   |some x=>
    obtain⟨b,ok⟩:=x;rw[f] at h;cases ok with
    |false=>simp at h
    |true=>
     have o:(R.qx+1)*C<=1048576*C:=dM _ (by omega);have z:(R.qx+1)*C=R.qx*C+C:=by rw[lm,Nat.one_mul]
     obtain⟨e,m⟩:=(CF a _ b j (by omega) f).mono s;have e:b.qx=R.qx+1:=e;obtain⟨v,t,y⟩:=m k l (by omega);have i:TD C b:=⟨v,t,by rw[e];omega⟩;simp only at h;cases g:gR n c b.qp a with
     |none=>rw[g] at h;simp at h
     |some d=>
      rw[g] at h;simp only[jC] at h;obtain⟨r,w⟩:=FT a d j g;split at h
      .exact DX p q n false d b R' r (by omega) i h
      .cases h;exact⟨i,by omega⟩
def DK{a e mr mx C:Nat}(j:mx<=1048576)(l:1048576*C<9223372036854775808){rs:List zs}(i:∀r∈rs,T8 r)(o:(rs.map (qL (zL e))).sum<=C):∀(n s:Nat) (R R':zu),TD C R->R.qx<=mx->ku a e mr mx rs n s R=some (R',true)->TD C R'/\R'.qx<=mx
 |0,s,R,R',c,f,h=>by simp only[ku,zr,yc,and_true] at h;subst h;exact⟨c,f⟩
 |n+1,s,R,R',c,f,h=>by
  simp only[ku] at h;cases b:pj a e mr mx rs R s with
  |none=>rw[b] at h;simp at h
  |some x=>
   obtain⟨d,ok⟩:=x;rw[b] at h;cases ok with
   |false=>simp at h
   |true=>
    have k:TD C d/\d.qx<=mx:=by
     unfold pj at b;split at b
     .cases b
     .rename_i g p;obtain⟨m,q⟩:=ot rs g i p;split at b
      .exact DX j l a true g R d m (by omega) c b
      .cases b;exact⟨c,f⟩
    exact DK j l i o n (s+1) d R' k.1 k.2 h
def D1{mr:Nat}:∀(fs:List qV) (R R':zu),kO mr fs R=some (R',true)->SI R R' 0
 |[],R,R',h=>by simp only[kO,zr,yc,and_true] at h;subst h;exact SI.refl R
 |f::fs,R,R',h=>by
  simp only[kO] at h;cases a:jM mr R f.pred f.row with
  |none=>rw[a] at h;simp at h
  |some x=>
   obtain⟨b,ok⟩:=x;rw[a] at h;cases ok with
   |false=>simp at h
   |true=>exact(CM a).trans (D1 fs b R' h)
def Mr{a mr mx:Nat}{S:qJ}{R:zu}(i:mx<=1048576)(g:∀r∈S.rules,T8 r)(n:1048576*(S.rules.map (qL (zL S.qf))).sum<9223372036854775808)(h:mz a S mr mx=some (some R)):0<=R.jg:=by
 unfold mz at h;rcases c:kO mr S.facts (fH S) with _|x;rw[c] at h;simp at h;obtain⟨d,ok⟩:=x;rw[c] at h;cases ok;simp at h;obtain⟨f,j⟩:=D1 _ _ _ c;obtain⟨k,m,o⟩:=j 0 rfl (by omega);have f:d.qx=0:=f;simp only at h;rcases b:ku a S.qf mr mx S.rules S.qj.length 0 d with _|y;rw[b] at h;simp at h;obtain⟨l,ok⟩:=y;rw[b] at h;cases ok;simp at h;simp only[jC,if_true,zr] at h;subst h;obtain⟨⟨p,e,_⟩,_⟩:=DK i n g (zf _) _ 0 d l ⟨k,m,by omega⟩ (by omega) b;omega
end Go.Proofs.YteampbddflhngaaGreat
