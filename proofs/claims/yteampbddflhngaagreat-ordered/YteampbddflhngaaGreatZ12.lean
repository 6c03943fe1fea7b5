import Derived.Test.YteampbddflhngaaGreatZ10
namespace Go.Proofs.YteampbddflhngaaGreat
set_option linter.all false
section
variable {r p r2:List QA}{a:zj}
inductive dV:κ->List QA->Prop
 |one {x:QA}:R8 x.1=true->dV [x.2] [x]
 |more {x c:QA} {ts:κ} {r:List QA}:R8 x.1=true->c.1=6->dV ts r->dV (x.2::ts) (x::c::r)
inductive qv:zj->List QA->Prop
 |bare {n:QA}:n.1=1->qv ⟨false,n.2,[]⟩ [n]
 |args {n o c:QA} {ts:κ} {p:List QA}:n.1=1->o.1=4->dV ts p->c.1=5->qv ⟨false,n.2,ts⟩ (n::o::(p++[c]))
inductive gy:zj->List QA->Prop
 |qc {a:zj} {p:List QA}:qv a p->gy a p
 |neg {a:zj} {n:QA} {p:List QA}:n.1=8->qv a p->gy {a with neg:=true} (n::p)
inductive gq:List zj->List QA->Prop
 |one {a:zj} {p:List QA}:gy a p->gq [a] p
 |more {a:zj} {p q:List QA} {c:QA} {b:List zj}:gy a p->c.1=6->gq b q->gq (a::b) (p++c::q)
inductive dZ:zd->List QA->Prop
 |fact {a:zj} {p:List QA}:qv a p->dZ ⟨a,[]⟩ p
 |rule {a:zj} {b:List zj} {p q:List QA} {i:QA}:qv a p->i.1=9->gq b q->dZ ⟨a,b⟩ (p++i::q)
inductive fd:List zd->List QA->Prop
 |nil:fd [] []
 |cons {c:zd} {cs:List zd} {p q:List QA} {d:QA}:dZ c p->d.1=7->fd cs q->fd (c::cs) (p++d::q)
theorem mS{k:Int}(b:k≠0)(h:QR r=k):∃x t,r=x::t/\x.1=k:=by
 cases r with
 |nil=>exact zC h.symm b
 |cons x t=>exact⟨x,t,rfl,h⟩
theorem Bx:∀(r:List QA) {ts:κ} {r2:List QA},yk r=some (ts,r2)->∃p,r=p++r2/\dV ts p
 |[],_,_,h=>by simp[yk] at h
 |[x],ts,r2,h=>by
  cases b:R8 x.1 with
  |false=>simp[yk,b] at h
  |true=>simp[yk,b] at h;obtain⟨rfl,rfl⟩:=h;exact⟨[x],rfl,.one b⟩
 |x::y::r,ts,r2,h=>by
  cases b:R8 x.1 with
  |false=>simp[yk,b] at h
  |true=>
   by_cases c:y.1=6
   ·simp only[yk,b,c,if_true] at h;obtain⟨⟨g,i⟩,f,d⟩:=vN.1 h;simp at d;obtain⟨rfl,rfl⟩:=d;obtain⟨p,rfl,e⟩:=Bx r f;exact⟨x::y::p,rfl,.more b c e⟩
   ·simp[yk,b,c] at h;obtain⟨rfl,rfl⟩:=h;exact⟨[x],rfl,.one b⟩
theorem Ih{ts:κ}(h:dV ts p)(d:QR r2≠6):yk (p++r2)=some (ts,r2):=by
 induction h with
 |one b=>exact Dk b d
 |more b c _ e=>simp only[lE,yk,b,c,if_true];rw[e];rfl
theorem iX(h:yZ r=some (a,r2)):∃p,r=p++r2/\qv a p:=by
 unfold yZ at h;split at h
 ·rename_i j;obtain⟨n,t,rfl,e⟩:=mS (by decide) j;by_cases d:QR t=4
  ·rw[zc (show QR (n::t).tail=4 from d)] at h;obtain⟨o,t,rfl,f⟩:=mS (by decide) d;split at h
   ·exact zC h (by simp)
   ·rename_i l m b;split at h
    ·rename_i k;obtain⟨p,rfl,i⟩:=Bx _ b;obtain⟨c,t,rfl,g⟩:=mS (by decide) k;simp at h;obtain⟨rfl,rfl⟩:=h;exact⟨n::o::(p++[c]),by simp,.args e f i g⟩
    ·exact zC h (by simp)
  ·rw[za (show ¬QR (n::t).tail=4 from d)] at h;simp at h;obtain⟨rfl,rfl⟩:=h;exact⟨[n],rfl,.bare e⟩
 ·exact zC h (by simp)
theorem si(h:qv a p)(i:QR r2≠4):yZ (p++r2)=some (a,r2):=by
 cases h with
 |bare b=>simp[yZ,QR,b];intro h;exact zC h i
 |args b f g d=>
  rename_i n o c j p;have e:(n::o::(p++[c]))++r2=n::o::(p++(c::r2)):=by simp
  rw[e];simp only[yZ,QR,b,f,if_true,lW,List.headD_cons];rw[Ih g (by simp[QR,d])];simp[d]
theorem qv.hd(h:qv a p)(r:List QA):QR (p++r)=1:=by cases h<;>assumption
theorem qv.len(h:qv a p):0<p.length:=by cases h<;>simp
theorem Nj(h:uC r=some (a,r2)):∃p,r=p++r2/\gy a p:=by
 unfold uC at h;split at h
 ·rename_i g;obtain⟨n,t,rfl,f⟩:=mS (by decide) g;obtain⟨⟨i,j⟩,e,d⟩:=vN.1 h;simp at d;obtain⟨rfl,rfl⟩:=d;obtain⟨p,b,c⟩:=iX e;simp only[lW] at b;subst b;exact⟨n::p,rfl,.neg f c⟩
 ·obtain⟨p,b,c⟩:=iX h;exact⟨p,b,.qc c⟩
theorem BE(h:gy a p)(c:QR r2≠4):uC (p++r2)=some (a,r2):=by
 cases h with
 |qc b=>unfold uC;rw[b.hd,si b c];rfl
 |neg d b=>simp only[uC,lE,QR,d,if_true,lW];rw[si b c];rfl
theorem gy.len{a:zj}{p:List QA}(h:gy a p):0<p.length:=by cases h with
 |qc h=>exact h.len
 |neg _ h=>simp
theorem Kv:∀{n:Nat} {r r2:List QA} {b:List zj},xJ n r=some (b,r2)->∃p,r=p++r2/\gq b p:=by
 intro n;induction n with
 |zero=>intro r r2 b h;simp[xJ] at h
 |succ n o=>
  intro r r2 b h;cases d:uC r with
  |none=>rw[rY d] at h;exact zC h (by simp)
  |some z=>
   obtain⟨a,l⟩:=z;obtain⟨p,rfl,g⟩:=Nj d;by_cases e:QR l=6
   ·rw[pD d e] at h;obtain⟨⟨u,s⟩,k,i⟩:=vN.1 h;simp at i;obtain⟨rfl,rfl⟩:=i;obtain⟨c,t,rfl,j⟩:=mS (by decide) e;obtain⟨q,f,m⟩:=o k;simp only[lW] at f;subst f;exact⟨p++c::q,by simp,.more g j m⟩
   ·rw[pG d e] at h;simp at h;obtain⟨rfl,rfl⟩:=h;exact⟨p,rfl,.one g⟩
theorem I3{b:List zj}(h:gq b p)(l:QR r2≠4)(i:QR r2≠6):∀n,p.length<=n->xJ n (p++r2)=some (b,r2):=by
 induction h with
 |one d=>
  intro n g;have:=d.len;obtain⟨m,rfl⟩:∃m,n=m+1:=⟨n-1,by omega⟩;rw[pG (BE d l) i]
 |more d f _ k=>
  rename_i a p q c b _;intro n g;simp only[yp,xd] at g;obtain⟨m,rfl⟩:∃m,n=m+1:=⟨n-1,by omega⟩;have e:(p++c::q)++r2=p++(c::(q++r2)):=by simp
  have j:=BE d (r2:=c::(q++r2)) (by simp[QR,f]);rw[e,pD j f,lW,k m (by omega)];rfl
theorem O8{n:Nat}{c:zd}(h:vh n r=some (c,r2)):∃p d,r=p++d::r2/\d.1=7/\dZ c p:=by
 unfold vh at h;split at h
 ·exact zC h (by simp)
 ·rename_i a u j;obtain⟨p,rfl,k⟩:=iX j;split at h
  ·rename_i l;obtain⟨i,t,rfl,m⟩:=mS (by decide) l;split at h
   ·exact zC h (by simp)
   ·rename_i b s f;obtain⟨q,rfl,o⟩:=Kv f;split at h
    ·rename_i e;obtain⟨d,t,rfl,g⟩:=mS (by decide) e;simp at h;obtain⟨rfl,rfl⟩:=h;exact⟨p++i::q,d,by simp,g,.rule k m o⟩
    ·exact zC h (by simp)
  ·split at h
   ·rename_i e;obtain⟨d,t,rfl,g⟩:=mS (by decide) e;simp at h;obtain⟨rfl,rfl⟩:=h;exact⟨p,d,rfl,g,.fact k⟩
   ·exact zC h (by simp)
theorem IP{c:zd}(h:dZ c p){d:QA}(f:d.1=7)(r2:List QA)(n:Nat)(k:p.length<=n):vh n (p++d::r2)=some (c,r2):=by
 cases h with
 |fact g=>
  unfold vh;rw[si g (by simp[QR,f])];simp[QR,f]
 |rule g j l=>
  rename_i a b p q i;simp only[yp,xd] at k;have e:(p++i::q)++d::r2=p++(i::(q++d::r2)):=by simp
  unfold vh;rw[e,si g (by simp[QR,j])];simp only[QR,j,if_true,lW];rw[I3 l (by simp[QR,f]) (by simp[QR,f]) n (by omega)];simp[f]
theorem dZ.len{c:zd}{p:List QA}(h:dZ c p):0<p.length:=by cases h with
 |fact h=>exact h.len
 |rule h=>simp;omega
theorem FX{n:Nat}:∀(m:Nat) {r:List QA} {cs:List zd},yI n m r=some cs->fd cs r:=by
 intro m;induction m with
 |zero=>
  intro r cs h;cases r with
  |nil=>simp[yI] at h;subst h;exact .nil
  |cons x r=>simp[yI] at h
 |succ m j=>
  intro r cs h;cases r with
  |nil=>simp[yI] at h;subst h;exact .nil
  |cons x r=>
   cases b:vh n (x::r) with
   |none=>rw[wm (by simp) b] at h;exact zC h (by simp)
   |some z=>
    rw[rU (by simp) b] at h;obtain⟨g,f,rfl⟩:=vN.1 h;obtain⟨p,d,e,i,c⟩:=O8 b;rw[e];exact .cons c i (j f)
theorem Pq{n:Nat}{cs:List zd}(h:fd cs r):∀m,r.length<=m->r.length<=n->yI n m r=some cs:=by
 induction h with
 |nil=>intro m _ _;cases m<;>rfl
 |cons b e _ f=>
  intro m c d;have:=b.len;simp only[yp,xd] at c d;obtain⟨k,rfl⟩:∃k,m=k+1:=⟨m-1,by omega⟩;rw[rU (by simp) (IP b e _ n (by omega)),f k (by omega) (by omega)];rfl
theorem Jr(l:List QA)(cs:List zd):yI l.length l.length l=some cs↔fd cs l:=
 ⟨FX _,fun h=>Pq h _ (zg _) (zg _)⟩
end
section
variable {p:List QA}
def xU(l:List QA):Prop:=∀x∈l,fL x
def zU(l:List QA):κ:=l.map Prod.snd
def tk(l:List QA)(i:Nat):QA:=l.getD i (0,ByteArray.empty)
theorem Pj:fL (0,ByteArray.empty):=by constructor<;>first|rfl|(show _=(ByteArray.empty.toList == _);rw[l7];rfl)
theorem xU.tk{l:List QA}(h:xU l)(i:Nat):fL (tk l i):=by
 unfold Go.Proofs.YteampbddflhngaaGreat.tk;by_cases a:i<l.length
 ·rw[gs,yq a];exact h _ (zs a)
 ·rw[gs,kF (by omega)];exact Pj
theorem gS(l:List QA)(i:Nat):gB (zU l) i=(tk l i).2:=by
 unfold gB zU tk;by_cases a:i<l.length
 ·simp[List.getD_eq_getElem?_getD,a]
 ·simp[List.getD_eq_getElem?_getD,a]
theorem kr(l:List QA):(zU l).length=l.length:=by simp[zU]
theorem xU.take{l:List QA}(h:xU l)(n:Nat):xU (l.take n):=fun x a=>h x (fS a)
theorem xU.drop{l:List QA}(h:xU l)(n:Nat):xU (l.drop n):=fun x a=>h x (dK a)
theorem qR{k c:Int}{b:Bool}(h:(k == c)=b):b=true↔k=c:=by subst h;simp
def Rs{α:Type}:List α->List α
 |[]=>[]
 |[x]=>[x]
 |x::_::r=>x::Rs r
theorem Fz{α:Type}(y:α):∀x:List α,Rs (x++[y])=Rs x++(if x.length%2=0 then [y] else [])
 |[]=>rfl
 |[a]=>rfl
 |a::b::r=>by
  have:=Fz y r;have c:(a::b::r).length%2=r.length%2:=by simp only[xd];omega
  rw[c];simp only[lE,Rs,this]
theorem Fk(l:κ):∀m,m<=l.length->uP l m=Rs ((l.drop 2).take (m-2))
 |0,_=>by simp[uP,Rs]
 |m+1,h=>by
  rw[uP,Fk l m (by omega)];by_cases a:2<=m
  ·have e:(l.drop 2).take (m+1-2)=(l.drop 2).take (m-2)++[gB l m]:=by
    rw[show m+1-2=(m-2)+1 by omega,List.take_add_one];congr 1;rw[List.getElem?_drop,show 2+(m-2)=m by omega,yq (by omega),xx (by omega)];rfl
   rw[e,Fz];congr 1;have b:((l.drop 2).take (m-2)).length=m-2:=by simp;omega
   rw[b];simp only[a,true_and];rw[show(m-2)%2=m%2 by omega]
  ·rw[show m+1-2=0 by omega,show m-2=0 by omega];simp[Rs,a]
theorem E6(l:κ):∀m,qe l m=true↔∀i,2<=i->i<m->Ss l i=true
 |0=>by simp[qe]
 |m+1=>by
  have f:=E6 l m;simp only[qe,ux,dX,decide_eq_true_eq,f];constructor
  ·rintro⟨e,a⟩ i b d;by_cases c:i=m
   ·subst c;rcases a with a|a
    ·omega
    ·exact a
   ·exact e i b (by omega)
  ·intro h;refine⟨fun i b d=>h i b (by omega),?_⟩;by_cases a:m<2
   ·exact zf a
   ·exact zb (h m (by omega) (by omega))
def SF(q:List QA):Prop:=q.length%2=1/\∀i,i<q.length->if i%2=0 then R8 (tk q i).1=true else(tk q i).1=6
theorem gP(x:QA)(l:List QA)(i:Nat):tk (x::l) (i+1)=tk l i:=by simp[tk]
theorem fw(x:QA)(l:List QA):tk (x::l) 0=x:=by simp[tk]
theorem Jt{ts:κ}{q:List QA}(h:dV ts q):SF q/\ts=Rs (zU q):=by
 induction h with
 |one b=>exact⟨⟨rfl,fun i a=>by simp at a;subst a;simpa [fw] using b⟩,rfl⟩
 |more b c _ f=>
  obtain⟨⟨g,e⟩,d⟩:=f;refine⟨⟨by simp only[xd];omega,fun i a=>?_⟩,by rw[d];rfl⟩;match i with
  |0=>simpa [fw] using b
  |1=>simpa [gP,fw] using c
  |i+2=>
   have:=e i (by simp only[xd] at a;omega);rw[gP,gP,show(i+2)%2=i%2 by omega];exact this
theorem BH:∀(q:List QA),SF q->dV (Rs (zU q)) q
 |[],h=>by have:=h.1;simp at this
 |[x],h=>by have:=h.2 0 (by simp);simp[fw] at this;exact .one this
 |x::y::r,h=>by
  have a:=h.2 0 (by simp);have b:=h.2 1 (by simp);simp[fw] at a;simp[gP,fw] at b;refine .more a b (BH r ⟨by have:=h.1;simp only[xd] at this;omega,fun i c=>?_⟩);have:=h.2 (i+2) (by simp only[xd];omega);rw[gP,gP,show(i+2)%2=i%2 by omega] at this;exact this
theorem Kx{r:List QA}{i:Nat}(h:i<p.length):tk (p++r) i=tk p i:=by
 simp[tk,List.getD_eq_getElem?_getD,List.getElem?_append_left h]
theorem IY{r:List QA}{c:QA}:tk (p++c::r) p.length=c:=by simp[tk,List.getD_eq_getElem?_getD]
theorem FF{neg:Bool}{n o c:QA}{q:List QA}(h:xU (n::o::(q++[c])))(a:zj):
  xi neg (zU (n::o::(q++[c])))=some a↔n.1=1/\o.1=4/\c.1=5/\SF q/\a=⟨neg,n.2,Rs (zU q)⟩:=by
 have u:=qR (h n (by simp)).n;have s:=qR (h o (by simp)).k4;have r:=qR (h c (by simp)).k5;have E:gB (zU (n::o::(q++[c]))) 0=n.2:=by rw[gS,fw]
 have D:gB (zU (n::o::(q++[c]))) 1=o.2:=by rw[gS,gP,fw]
 have w:(zU (n::o::(q++[c]))).length=q.length+3:=by rw[kr];simp
 have B:gB (zU (n::o::(q++[c]))) (q.length+2)=c.2:=by rw[gS,gP,gP,IY]
 have l:qe (zU (n::o::(q++[c]))) (q.length+2)=true↔∀i,i<q.length->if i%2=0 then R8 (tk q i).1=true else(tk q i).1=6:=by
  have f:∀i,i<q.length->(Ss (zU (n::o::(q++[c]))) (i+2)=true↔if i%2=0 then R8 (tk q i).1=true else(tk q i).1=6):=by
   intro i j;have t:fL (tk q i):=xU.tk (fun x C=>h x (by simp[C])) i;unfold Ss;rw[gS,gP,gP,Kx j,show(i+2)%2=i%2 by omega];split
   ·rw[t.t]
   ·exact qR t.k6
  rw[E6];constructor
  ·intro m i j;exact(f i j).1 (m (i+2) (by omega) (by omega))
  ·intro m i F j;have:=(f (i-2) (by omega)).2 (m (i-2) (by omega));rwa [show i-2+2=i by omega] at this
 have b:uP (zU (n::o::(q++[c]))) (q.length+2)=Rs (zU q):=by
  rw[Fk _ _ (by omega)];simp[zU]
 unfold xi;rw[w,E,D,show q.length+3-1=q.length+2 by omega,B,b];rw[za (by omega)];by_cases k:n.1=1
 ·rw[za (by rw[u.2 k];simp),za (by omega)];by_cases d:q.length+3<4∨(q.length+3)%2=1∨(o.2.toList == [40])=false∨(c.2.toList == [41])=false
  ·rw[zc d];simp only[reduceCtorEq,false_iff];rintro⟨-,y,z,A,-⟩;rw[s.2 y,r.2 z] at d;have:=A.1;simp at d;omega
  ·rw[za d];simp only[not_or,sc] at d;have v:SF q↔qe (zU (n::o::(q++[c]))) (q.length+2)=true:=by
    rw[l];exact⟨fun h=>h.2,fun h=>⟨by omega,h⟩⟩
   by_cases g:qe (zU (n::o::(q++[c]))) (q.length+2)=true
   ·rw[zc g];simp only[zt];exact⟨fun e=>⟨k,s.1 d.2.2.1,r.1 d.2.2.2,v.2 g,e.symm⟩,fun e=>e.2.2.2.2.symm⟩
   ·rw[za g];simp only[reduceCtorEq,false_iff];exact fun e=>g (v.1 e.2.2.2.1)
 ·have:yR (QE n.2 0)=false:=by rw[←p7];exact fun e=>k (u.1 e)
  rw[zc this];simp only[reduceCtorEq,false_iff];exact fun e=>k e.1
theorem tY{neg:Bool}(h:xU p)(a:zj):xi neg (zU p)=some a↔∃f,qv f p/\a={f with neg:=neg}:=by
 match p,h with
 |[],_=>
  simp only[xi,zU,List.map_nil,dD,if_true,reduceCtorEq,false_iff];rintro⟨f,b,-⟩;cases b
 |[n],h=>
  have s:=qR (h n (by simp)).n;have t:gB (zU [n]) 0=n.2:=by rw[gS,fw]
  unfold xi;rw[kr,t];constructor
  ·intro e;cases i:yR (QE n.2 0) with
   |false=>simp[i] at e
   |true=>simp[i] at e;exact⟨_,.bare (s.1 i),e.symm⟩
  ·rintro⟨f,b,rfl⟩;cases b with
   |bare g=>simp[s.2 g]
 |n::o::r,h=>
  rcases sQ r with rfl|⟨q,c,rfl⟩
  ·constructor
   ·intro e;unfold xi at e;rw[kr] at e;simp at e
   ·rintro⟨f,b,rfl⟩;generalize d:[n,o]=p at b;cases b with
    |bare=>simp at d
    |args=>simp at d
  ·rw[s6] at h ⊢;rw[FF h];constructor
   ·rintro⟨j,m,k,l,rfl⟩;exact⟨_,.args j m (BH q l) k,rfl⟩
   ·rintro⟨f,b,rfl⟩;generalize d:n::o::(q++[c])=p at b;cases b with
    |bare=>simp at d
    |args j m u k=>
     simp only[mU] at d;obtain⟨rfl,rfl,d⟩:=d;have:=pQ d rfl;simp only[mU,and_true] at this;obtain⟨rfl,rfl⟩:=this;obtain⟨l,rfl⟩:=Jt u;exact⟨j,m,k,l,rfl⟩
theorem qv.qc{a:zj}(h:qv a p):{a with neg:=false}=a:=by cases h<;>rfl
theorem em(h:xU p)(a:zj):jD (zU p) true=some a↔qv a p:=by
 have c:Rp (zU p) true=false:=by simp[Rp]
 unfold jD;rw[c,za (by simp),tY h];exact⟨fun⟨d,b,e⟩=>by rw[e,b.qc];exact b,fun b=>⟨a,b,b.qc.symm⟩⟩
theorem tZ(h:xU p)(a:zj):jD (zU p) false=some a↔gy a p:=by
 cases p with
 |nil=>
  have k:Rp (zU []) false=false:=rfl;unfold jD;rw[k,za (by simp),tY h];constructor
  ·rintro⟨j,b,-⟩;cases b
  ·intro c;cases c with
   |qc b=>cases b
 |cons n r=>
  have f:=qR (h n (by simp)).k8;have g:Rp (zU (n::r)) false=(n.2.toList == [33]):=by
   unfold Rp;rw[gS,fw,kr];simp
  unfold jD;rw[g];cases i:(n.2.toList == [33]) with
  |true=>
   have d:=f.1 i;rw[zc rfl,show(zU (n::r)).tail=zU r from rfl,tY (show xU r from fun x l=>h x (by simp[l]))];constructor
   ·rintro⟨j,b,rfl⟩;exact .neg d b
   ·intro c;cases c with
    |qc b=>have:=b.hd [];simp[QR,d] at this
    |neg _ b=>exact⟨_,b,rfl⟩
  |false=>
   have d:n.1≠8:=fun e=>by rw[f.2 e] at i;exact zC i (by simp)
   rw[za (by simp),tY h];constructor
   ·rintro⟨j,b,rfl⟩;rw[b.qc];exact .qc b
   ·intro c;cases c with
    |qc b=>exact⟨_,b,b.qc.symm⟩
    |neg f _=>exact zC f d
end
section
variable {l r p:List QA}
theorem Ac{f i:Nat}(b:f<=i)(a:i<l.length):l.drop f=(l.drop f).take (i-f)++l[i]::l.drop (i+1):=by
 have e:(l.drop f).drop (i-f)=l[i]::l.drop (i+1):=by
  rw[List.drop_drop,show f+(i-f)=i by omega,xp a]
 rw[←e,qZ]
theorem nY(l:List QA)(f k:Nat):((zU l).drop f).take k=zU ((l.drop f).take k):=by simp[zU,List.map_take,List.map_drop]
theorem rH{i:Nat}(h:i<l.length):tk l i=l[i]:=by simp[tk,List.getD_eq_getElem?_getD,h]
theorem sX{i:Nat}{x:QA}(h:l.drop i=x::r):tk l i=x/\i<l.length/\l.drop (i+1)=r:=by
 have a:i<l.length:=by
  false_or_by_contra;rename_i b
  rw[ue (by omega)] at h;exact zC h (by simp)
 rw[xp a] at h;simp only[mU] at h;exact⟨by rw[rH a];exact h.1,a,h.2⟩
theorem Ja(h:xU l):∀(n f i:Nat) (d:Int) (b:List zj),f<=i->i+n=l.length+1->yF (zU l) n f d i=some b->gq b (l.drop f)∨(n=0/\b=[]):=by
 intro n;induction n with
 |zero=>intro f i d b _ _ e;simp[yF] at e;exact zb ⟨rfl,e⟩
 |succ n x=>
  intro f i d b u y e;left;have step:∀{k m j},k<=i+1->i<l.length->yF (zU l) n k m (i+1)=some j->gq j (l.drop k):=by
   intro k m j v z w;rcases x k (i+1) m j v (by omega) w with o|⟨rfl,-⟩
   ·exact o
   ·omega
  unfold yF at e;rw[kr] at e;by_cases c:i<l.length
  ·rw[zc c] at e;split at e
   ·exact step (by omega) c e
   ·split at e
    ·exact step (by omega) c e
    ·split at e
     ·exact step (by omega) c e
     ·rename_i q;split at e
      ·exact zC e (by simp)
      ·rename_i a g;rw[nY,tZ ((h.drop f).take _)] at g;obtain⟨j,t,rfl⟩:=vN.1 e;have o:=step (zg _) c t;rw[Ac u c];refine .more g ?_ o;have s:=qR (h.tk i).k6;rw[rH c] at s;apply s.1;simp only[not_or,sc] at q;have:=q.1;rwa [gS,rH c] at this
  ·rw[za c] at e;split at e
   ·exact zC e (by simp)
   ·rename_i a g;rw[nY,tZ ((h.drop f).take _)] at g;simp only[zt] at e;subst e;have:(l.drop f).take (i-f)=l.drop f:=xh (by simp;omega);rw[this] at g;exact .one g
def dep:Int->List QA->Option Int
 |d,[]=>some d
 |d,x::r=>if x.1=4 then dep (d+1) r else if x.1=5 then dep (d-1) r else if x.1≠6∨0<d then dep d r else none
theorem tw:∀(p q:List QA) (d:Int),dep d (p++q)=(dep d p).bind fun a=>dep a q
 |[],q,d=>rfl
 |x::p,q,d=>by
  simp only[lE,dep];split
  ·exact tw p q _
  ·split
   ·exact tw p q _
   ·split
    ·exact tw p q _
    ·rfl
theorem Nr{ts:κ}(h:dV ts p){d:Int}(e:0<d):dep d p=some d:=by
 have b:∀{x:QA},R8 x.1=true->x.1≠4/\x.1≠5/\x.1≠6:=by
  intro x a;simp[R8] at a;omega
 induction h with
 |one a=>have:=b a;simp[dep,this]
 |more a c _ f=>have:=b a;simp[dep,this,c,e,f]
theorem Df{a:zj}(h:qv a p):dep 0 p=some 0:=by
 cases h with
 |bare b=>simp[dep,b]
 |args b e f c=>
  simp only[dep,b,e];simp only[tw,Nr f (d:=0+1) (by omega)];simp[dep,c]
theorem EU{a:zj}(h:gy a p):dep 0 p=some 0:=by
 cases h with
 |qc b=>exact Df b
 |neg c b=>simp[dep,c,Df b]
theorem io{l:List QA}(h:xU l)(f:Nat):∀(p r:List QA) (d g:Int) (i n:Nat),l.drop i=p++r->dep d p=some g->yF (zU l) (n+p.length) f d i=yF (zU l) n f g (i+p.length)
 |[],r,d,g,i,n,_,a=>by simp[dep] at a;subst a;rfl
 |x::p,r,d,g,i,n,u,a=>by
  obtain⟨s,w,v⟩:=sX u;have m:=h.tk i;rw[s] at m;have q:=qR m.k4;have o:=qR m.k5;have y:=qR m.k6;have b:=fun t=>io h f p r t g (i+1) n v;rw[show n+(x::p).length=(n+p.length)+1 by simp only[xd];omega,show i+(x::p).length=i+1+p.length by simp only[xd];omega];rw[yF,kr,zc w,gS,s];unfold dep at a;by_cases j:x.1=4
  ·rw[zc (q.2 j)];rw[zc j] at a;exact b _ a
  ·rw[za (fun e=>j (q.1 e))];rw[za j] at a;by_cases k:x.1=5
   ·rw[zc (o.2 k)];rw[zc k] at a;exact b _ a
   ·rw[za (fun e=>k (o.1 e))];rw[za k] at a;by_cases c:x.1≠6∨0<d
    ·rw[zc c] at a;rw[zc (by
      rcases c with c|c
      ·left;rw[←p7];exact fun e=>c (y.1 e)
      ·exact zb c)]
     exact b _ a
    ·rw[za c] at a;exact zC a (by simp)
theorem RB{f:Nat}(a:l.drop f=p++r):(l.drop f).take (f+p.length-f)=p:=by
 rw[a,show f+p.length-f=p.length by omega];simp
theorem ep{f:Nat}(a:l.drop f=p++r):l.drop (f+p.length)=r:=by
 rw[←List.drop_drop,a];simp
theorem LC(h:xU l){b:List zj}(w:gq b p):∀f,l.drop f=p->yF (zU l) (p.length+1) f 0 f=some b:=by
 induction w with
 |one j=>
  rename_i a p;intro f g;have d:l.drop f=p++[]:=by simpa using g
  rw[show p.length+1=1+p.length by omega,io h f p [] 0 0 f 1 d (EU j),yF,kr];have m:=ep d;rw[List.drop_eq_nil_iff] at m;rw[za (by omega),nY,RB d,(tZ (by rw[←g];exact h.drop f) a).2 j]
 |more j o _ A=>
  rename_i a p q c b _;intro f g;have s:xU p:=fun x y=>h x (dK (i:=f) (by rw[g];simp[y]));have m:=ep g;obtain⟨n,v,B⟩:=sX m;have k:=h.tk (f+p.length);rw[n] at k;have u:=qR k.k4;have t:=qR k.k5;have z:=qR k.k6;rw[show(p++c::q).length+1=(q.length+1+1)+p.length by simp;omega,io h f p (c::q) 0 0 f _ g (EU j),yF,kr,zc v,gS,n,
   za (fun e=>by have:=u.1 e;omega),za (fun e=>by have:=t.1 e;omega),za (by rw[z.2 o];simp),nY,RB g,(tZ s a).2 j]
  simp only;rw[A (f+p.length+1) B];rfl
theorem E5(h:xU l)(b:List zj):yF (zU l) ((zU l).length+1) 0 0 0=some b↔gq b l:=by
 rw[kr];constructor
 ·intro e;rcases Ja h _ 0 0 0 b (zg _) (by omega) e with a|⟨c,-⟩
  ·simpa using a
  ·omega
 ·intro a;exact LC h a 0 (by simp)
end
section
variable {k:Int}{p l:List QA}
def No(k:Int)(l:List QA):Prop:=∀x∈l,x.1≠k
theorem No.app{q:List QA}(h:No k p)(g:No k q):No k (p++q):=fun x a=>(zI.1 a).elim (h x) (g x)
theorem No.cons{x:QA}{q:List QA}(h:x.1≠k)(g:No k q):No k (x::q):=fun y a=>by
 rcases zx.1 a with rfl|a
 ·exact h
 ·exact g y a
theorem No.nil(k:Int):No k []:=fun x a=>zC a (by simp)
theorem IE{ts:κ}(h:dV ts p)(e:6<k):No k p:=by
 have b:∀{x:QA},R8 x.1=true->x.1≠k:=by intro x a;simp[R8] at a;omega
 induction h with
 |one a=>exact .cons (b a) (.nil k)
 |more a d _ c=>exact .cons (b a) (.cons (by omega) c)
theorem po{a:zj}(h:qv a p)(d:6<k):No k p:=by
 cases h with
 |bare c=>exact .cons (by omega) (.nil k)
 |args c f b e=>exact .cons (by omega) (.cons (by omega) (.app (IE b d) (.cons (by omega) (.nil k))))
theorem DQ{a:zj}(h:gy a p)(d:k=7∨k=9):No k p:=by
 cases h with
 |qc b=>exact po b (by omega)
 |neg c b=>exact .cons (by omega) (po b (by omega))
theorem G3{b:List zj}(h:gq b p)(c:k=7∨k=9):No k p:=by
 induction h with
 |one a=>exact DQ a c
 |more a e _ d=>exact .app (DQ a c) (.cons (by omega) d)
theorem GD{c:zd}(h:dZ c p):No 7 p:=by
 cases h with
 |fact a=>exact po a (by omega)
 |rule a d b=>exact .app (po a (by omega)) (.cons (by omega) (G3 b (zf rfl)))
theorem ek:∀(p r:List QA),xU p->No 9 p->xG (zU (p++r))=p.length+xG (zU r)
 |[],r,_,_=>by simp
 |x::p,r,h,b=>by
  have d:=qR (h x (by simp)).k9;have c:(x.2.toList == [58,45])=false:=by rw[←p7];exact fun e=>b x (by simp) (d.1 e)
  show xG (x.2::zU (p++r))=_;rw[xG,c,ek p r (fun y a=>h y (by simp[a])) (fun y a=>b y (by simp[a]))];simp only[xd];rw[za (by simp)];omega
theorem BY:∀(l:List QA),xU l->xG (zU l)<l.length->(tk l (xG (zU l))).1=9
 |[],_,h=>by simp at h
 |x::l,a,h=>by
  have d:=qR (a x (by simp)).k9;change xG (x.2::zU l)<_ at h;show(tk (x::l) (xG (x.2::zU l))).1=9;rw[xG] at h ⊢;cases b:(x.2.toList == [58,45]) with
  |true=>rw[zc rfl,fw];exact d.1 b
  |false=>
   rw[b,za (by simp)] at h;rw[za (by simp),gP];exact BY l (fun y c=>a y (by simp[c])) (by simp only[xd] at h;omega)
theorem EM(l:List QA)(k:Nat):(zU l).take k=zU (l.take k):=by simp[zU,List.map_take]
theorem EB(l:List QA)(k:Nat):(zU l).drop k=zU (l.drop k):=by simp[zU,List.map_drop]
theorem CW(h:xU l)(c:zd):kd (zU l)=some c↔dZ c l:=by
 constructor
 ·intro e;have o:=Cb (zU l);rw[kr] at o;unfold kd at e;rw[EM,EB,kr] at e;split at e
  ·exact zC e (by simp)
  ·rename_i B m;rw[em (h.take _)] at m;split at e
   ·rename_i u;simp only[zt] at e;subst e;rw[u,xh (zg _)] at m;exact .fact m
   ·rename_i u;have d:xG (zU l)<l.length:=by omega
    split at e
    ·exact zC e (by simp)
    ·rename_i b t;rw[E5 (h.drop _)] at t;simp only[zt] at e;subst e;have g:=BY l h d;rw[rH d] at g;have j:=Ac (l:=l) (zv (xG (zU l))) d;rw[gU,Nat.sub_zero] at j;have z:=dZ.rule m g t;rwa [←j] at z
 ·intro v;unfold kd;rw[EM,EB,kr];cases v with
  |fact f=>
   have n:xG (zU l)=l.length:=by
    have:=ek l [] h (po f (by omega));simpa [zU,xG] using this
   rw[n,xh (zg _),(em h _).2 f];simp
  |rule f g y=>
   rename_i a b p q i;have s:xU p:=fun x r=>h x (by simp[r]);have w:xU q:=fun x r=>h x (by simp[r]);have n:xG (zU (p++i::q))=p.length:=by
    rw[ek p (i::q) s (po f (by omega))];show p.length+xG (i.2::zU q)=_;rw[xG,(qR (h i (by simp)).k9).2 g];rfl
   rw[n];have A:(p++i::q).take p.length=p:=by simp
   have j:(p++i::q).drop (p.length+1)=q:=by rw[←List.drop_drop];simp
   rw[A,j,(em s _).2 f,(E5 w _).2 y];simp only;rw[za (by simp)]
theorem Oe(h:xU l):∀(n f i:Nat) (cs:List zd),f<=i->i+n=l.length->qC (zU l) n f i=some cs->fd cs (l.drop f):=by
 intro n;induction n with
 |zero=>
  intro f i cs g q e;unfold qC at e;rw[kr] at e;split at e
  ·rename_i s;simp only[zt] at e;subst e;rw[ue (by omega)];exact .nil
  ·exact zC e (by simp)
 |succ n j=>
  intro f i cs g q e;have a:i<l.length:=by omega
  unfold qC at e;rw[gS,rH a] at e;split at e
  ·rename_i m;have r:=(qR (h l[i] (zs a)).k7).1 m;split at e
   ·exact zC e (by simp)
   ·rename_i c d;rw[nY,CW ((h.drop f).take _)] at d;obtain⟨o,b,rfl⟩:=vN.1 e;rw[Ac g a];exact .cons d r (j _ _ _ (zg _) (by omega) b)
  ·exact j _ _ _ (by omega) (by omega) e
theorem EF{l:List QA}(h:xU l)(f:Nat):∀(p r:List QA) (i n:Nat),l.drop i=p++r->No 7 p->qC (zU l) (n+p.length) f i=qC (zU l) n f (i+p.length)
 |[],r,i,n,_,_=>rfl
 |x::p,r,i,n,g,c=>by
  obtain⟨a,o,j⟩:=sX g;have b:=h.tk i;rw[a] at b;have m:=qR b.k7;rw[show n+(x::p).length=(n+p.length)+1 by simp only[xd];omega,show i+(x::p).length=i+1+p.length by simp only[xd];omega];rw[qC,gS,a,za (fun e=>c x (by simp) (m.1 e))];exact EF h f p r (i+1) n j (fun y d=>c y (by simp[d]))
theorem GR(h:xU l){cs:List zd}(o:fd cs p):∀f,f<=l.length->l.drop f=p->qC (zU l) p.length f f=some cs:=by
 induction o with
 |nil=>
  intro f m a;rw[List.drop_eq_nil_iff] at a;rw[dD,qC,kr,zc (by omega)]
 |cons b s _ t=>
  rename_i c cs p q d _;intro f m a;have j:xU p:=fun x r=>h x (dK (i:=f) (by rw[a];simp[r]));have n:=ep a;obtain⟨g,v,u⟩:=sX n;have e:=h.tk (f+p.length);rw[g] at e;rw[show(p++d::q).length=(q.length+1)+p.length by simp;omega,EF h f p (d::q) f _ a (GD b),qC,gS,g,zc ((qR e.k7).2 s),nY,RB a,(CW j c).2 b];simp only;rw[t (f+p.length+1) (by omega) u];rfl
theorem o5(h:xU l)(cs:List zd):vu (zU l)=some cs↔fd cs l:=by
 unfold vu;rw[kr];constructor
 ·intro e;have:=Oe h _ 0 0 cs (zg _) (by omega) e;simpa using this
 ·intro a;exact GR h a 0 (by omega) (by simp)
theorem JE(h:xU l):vu (zU l)=yI l.length l.length l:=by
 apply Option.ext;intro a;show vu (zU l)=some a↔yI l.length l.length l=some a;rw[o5 h,Jr]
theorem eQ(s:ByteArray):(xe s.size s).bind vu=(QG s).bind fun l=>yI l.length l.length l:=by
 rw[pX];cases a:QG s with
 |none=>rfl
 |some l=>exact JE fun x b=>(pf a x b).1
end
end Go.Proofs.YteampbddflhngaaGreat
