import Derived.Test.YteampbddflhngaaGreatZ10
namespace Go.Proofs.YteampbddflhngaaGreat
set_option linter.all false
section
variable {r p r2:List QC}{a:zj}
inductive fa:κ->List QC->Prop
 |one {x:QC}:RA x.1=true->fa [x.2] [x]
 |more {x c:QC} {ts:κ} {r:List QC}:RA x.1=true->c.1=6->fa ts r->fa (x.2::ts) (x::c::r)
inductive qt:zj->List QC->Prop
 |bare {n:QC}:n.1=1->qt ⟨false,n.2,[]⟩ [n]
 |args {n o c:QC} {ts:κ} {p:List QC}:n.1=1->o.1=4->fa ts p->c.1=5->qt ⟨false,n.2,ts⟩ (n::o::(p++[c]))
inductive gN:zj->List QC->Prop
 |qc {a:zj} {p:List QC}:qt a p->gN a p
 |neg {a:zj} {n:QC} {p:List QC}:n.1=8->qt a p->gN {a with neg:=true} (n::p)
inductive gy:List zj->List QC->Prop
 |one {a:zj} {p:List QC}:gN a p->gy [a] p
 |more {a:zj} {p q:List QC} {c:QC} {b:List zj}:gN a p->c.1=6->gy b q->gy (a::b) (p++c::q)
inductive dW:zd->List QC->Prop
 |fact {a:zj} {p:List QC}:qt a p->dW ⟨a,[]⟩ p
 |rule {a:zj} {b:List zj} {p q:List QC} {i:QC}:qt a p->i.1=9->gy b q->dW ⟨a,b⟩ (p++i::q)
inductive f9:List zd->List QC->Prop
 |nil:f9 [] []
 |cons {c:zd} {cs:List zd} {p q:List QC} {d:QC}:dW c p->d.1=7->f9 cs q->f9 (c::cs) (p++d::q)
theorem nc{k:Int}(b:k≠0)(h:QT r=k):∃x t,r=x::t/\x.1=k:=by
 cases r with
 |nil=>exact zC h.symm b
 |cons x t=>exact⟨x,t,rfl,h⟩
theorem AA:∀(r:List QC) {ts:κ} {r2:List QC},yk r=some (ts,r2)->∃p,r=p++r2/\fa ts p
 |[],_,_,h=>by simp[yk] at h
 |[x],ts,r2,h=>by
  cases b:RA x.1 with
  |false=>simp[yk,b] at h
  |true=>simp[yk,b] at h;obtain⟨rfl,rfl⟩:=h;exact⟨[x],rfl,.one b⟩
 |x::y::r,ts,r2,h=>by
  cases b:RA x.1 with
  |false=>simp[yk,b] at h
  |true=>
   by_cases c:y.1=6
   ·simp only[yk,b,c,if_true] at h;obtain⟨⟨g,i⟩,f,d⟩:=vM.1 h;simp at d;obtain⟨rfl,rfl⟩:=d;obtain⟨p,rfl,e⟩:=AA r f;exact⟨x::y::p,rfl,.more b c e⟩
   ·simp[yk,b,c] at h;obtain⟨rfl,rfl⟩:=h;exact⟨[x],rfl,.one b⟩
theorem Gt{ts:κ}(h:fa ts p)(d:QT r2≠6):yk (p++r2)=some (ts,r2):=by
 induction h with
 |one b=>exact CJ b d
 |more b e _ c=>simp only[lR,yk,b,e,if_true];rw[c];rfl
theorem iC(h:yZ r=some (a,r2)):∃p,r=p++r2/\qt a p:=by
 unfold yZ at h;split at h
 ·rename_i k;obtain⟨n,t,rfl,e⟩:=nc (by decide) k;by_cases b:QT t=4
  ·rw[zc (show QT (n::t).tail=4 from b)] at h;obtain⟨o,t,rfl,i⟩:=nc (by decide) b;split at h
   ·exact zC h (by simp)
   ·rename_i l m d;split at h
    ·rename_i f;obtain⟨p,rfl,j⟩:=AA _ d;obtain⟨c,t,rfl,g⟩:=nc (by decide) f;simp at h;obtain⟨rfl,rfl⟩:=h;exact⟨n::o::(p++[c]),by simp,.args e i j g⟩
    ·exact zC h (by simp)
  ·rw[za (show ¬QT (n::t).tail=4 from b)] at h;simp at h;obtain⟨rfl,rfl⟩:=h;exact⟨[n],rfl,.bare e⟩
 ·exact zC h (by simp)
theorem sL(h:qt a p)(f:QT r2≠4):yZ (p++r2)=some (a,r2):=by
 cases h with
 |bare b=>simp[yZ,QT,b];intro h;exact zC h f
 |args b g i d=>
  rename_i n o c j p;have e:(n::o::(p++[c]))++r2=n::o::(p++(c::r2)):=by simp
  rw[e];simp only[yZ,QT,b,g,if_true,lW,List.headD_cons];rw[Gt i (by simp[QT,d])];simp[d]
theorem qt.hd(h:qt a p)(r:List QC):QT (p++r)=1:=by cases h<;>assumption
theorem qt.len(h:qt a p):0<p.length:=by cases h<;>simp
theorem L2(h:uD r=some (a,r2)):∃p,r=p++r2/\gN a p:=by
 unfold uD at h;split at h
 ·rename_i f;obtain⟨n,t,rfl,e⟩:=nc (by decide) f;obtain⟨⟨i,j⟩,g,d⟩:=vM.1 h;simp at d;obtain⟨rfl,rfl⟩:=d;obtain⟨p,b,c⟩:=iC g;simp only[lW] at b;subst b;exact⟨n::p,rfl,.neg e c⟩
 ·obtain⟨p,b,c⟩:=iC h;exact⟨p,b,.qc c⟩
theorem BY(h:gN a p)(c:QT r2≠4):uD (p++r2)=some (a,r2):=by
 cases h with
 |qc b=>unfold uD;rw[b.hd,sL b c];rfl
 |neg d b=>simp only[uD,lR,QT,d,if_true,lW];rw[sL b c];rfl
theorem gN.len{a:zj}{p:List QC}(h:gN a p):0<p.length:=by cases h with
 |qc h=>exact h.len
 |neg _ h=>simp
theorem OH:∀{n:Nat} {r r2:List QC} {b:List zj},xK n r=some (b,r2)->∃p,r=p++r2/\gy b p:=by
 intro n;induction n with
 |zero=>intro r r2 b h;simp[xK] at h
 |succ n m=>
  intro r r2 b h;cases d:uD r with
  |none=>rw[rh d] at h;exact zC h (by simp)
  |some z=>
   obtain⟨a,l⟩:=z;obtain⟨p,rfl,g⟩:=L2 d;by_cases e:QT l=6
   ·rw[pT d e] at h;obtain⟨⟨s,u⟩,o,i⟩:=vM.1 h;simp at i;obtain⟨rfl,rfl⟩:=i;obtain⟨c,t,rfl,k⟩:=nc (by decide) e;obtain⟨q,f,j⟩:=m o;simp only[lW] at f;subst f;exact⟨p++c::q,by simp,.more g k j⟩
   ·rw[pJ d e] at h;simp at h;obtain⟨rfl,rfl⟩:=h;exact⟨p,rfl,.one g⟩
theorem I9{b:List zj}(h:gy b p)(i:QT r2≠4)(j:QT r2≠6):∀n,p.length<=n->xK n (p++r2)=some (b,r2):=by
 induction h with
 |one d=>
  intro n g;have:=d.len;obtain⟨m,rfl⟩:∃m,n=m+1:=⟨n-1,by omega⟩;rw[pJ (BY d i) j]
 |more d f _ k=>
  rename_i a p q c b _;intro n g;simp only[yq,xi] at g;obtain⟨m,rfl⟩:∃m,n=m+1:=⟨n-1,by omega⟩;have e:(p++c::q)++r2=p++(c::(q++r2)):=by simp
  have l:=BY d (r2:=c::(q++r2)) (by simp[QT,f]);rw[e,pT l f,lW,k m (by omega)];rfl
theorem NZ{n:Nat}{c:zd}(h:vo n r=some (c,r2)):∃p d,r=p++d::r2/\d.1=7/\dW c p:=by
 unfold vo at h;split at h
 ·exact zC h (by simp)
 ·rename_i a s e;obtain⟨p,rfl,k⟩:=iC e;split at h
  ·rename_i m;obtain⟨i,t,rfl,o⟩:=nc (by decide) m;split at h
   ·exact zC h (by simp)
   ·rename_i b u f;obtain⟨q,rfl,l⟩:=OH f;split at h
    ·rename_i j;obtain⟨d,t,rfl,g⟩:=nc (by decide) j;simp at h;obtain⟨rfl,rfl⟩:=h;exact⟨p++i::q,d,by simp,g,.rule k o l⟩
    ·exact zC h (by simp)
  ·split at h
   ·rename_i j;obtain⟨d,t,rfl,g⟩:=nc (by decide) j;simp at h;obtain⟨rfl,rfl⟩:=h;exact⟨p,d,rfl,g,.fact k⟩
   ·exact zC h (by simp)
theorem Gp{c:zd}(h:dW c p){d:QC}(f:d.1=7)(r2:List QC)(n:Nat)(l:p.length<=n):vo n (p++d::r2)=some (c,r2):=by
 cases h with
 |fact g=>
  unfold vo;rw[sL g (by simp[QT,f])];simp[QT,f]
 |rule g j k=>
  rename_i a b p q i;simp only[yq,xi] at l;have e:(p++i::q)++d::r2=p++(i::(q++d::r2)):=by simp
  unfold vo;rw[e,sL g (by simp[QT,j])];simp only[QT,j,if_true,lW];rw[I9 k (by simp[QT,f]) (by simp[QT,f]) n (by omega)];simp[f]
theorem dW.len{c:zd}{p:List QC}(h:dW c p):0<p.length:=by cases h with
 |fact h=>exact h.len
 |rule h=>simp;omega
theorem NU{n:Nat}:∀(m:Nat) {r:List QC} {cs:List zd},yI n m r=some cs->f9 cs r:=by
 intro m;induction m with
 |zero=>
  intro r cs h;cases r with
  |nil=>simp[yI] at h;subst h;exact .nil
  |cons x r=>simp[yI] at h
 |succ m g=>
  intro r cs h;cases r with
  |nil=>simp[yI] at h;subst h;exact .nil
  |cons x r=>
   cases b:vo n (x::r) with
   |none=>rw[sJ (by simp) b] at h;exact zC h (by simp)
   |some z=>
    rw[sg (by simp) b] at h;obtain⟨c,j,rfl⟩:=vM.1 h;obtain⟨p,d,e,i,f⟩:=NZ b;rw[e];exact .cons f i (g j)
theorem LL{n:Nat}{cs:List zd}(h:f9 cs r):∀m,r.length<=m->r.length<=n->yI n m r=some cs:=by
 induction h with
 |nil=>intro m _ _;cases m<;>rfl
 |cons b f _ e=>
  intro m c d;have:=b.len;simp only[yq,xi] at c d;obtain⟨k,rfl⟩:∃k,m=k+1:=⟨m-1,by omega⟩;rw[sg (by simp) (Gp b f _ n (by omega)),e k (by omega) (by omega)];rfl
theorem Lj(l:List QC)(cs:List zd):yI l.length l.length l=some cs↔f9 cs l:=
 ⟨NU _,fun h=>LL h _ (zg _) (zg _)⟩
end
section
variable {p:List QC}
def xQ(l:List QC):Prop:=∀x∈l,hU x
def zU(l:List QC):κ:=l.map Prod.snd
def tk(l:List QC)(i:Nat):QC:=l.getD i (0,ByteArray.empty)
theorem LC:hU (0,ByteArray.empty):=by constructor<;>first|rfl|(show _=(ByteArray.empty.toList == _);rw[lM];rfl)
theorem xQ.tk{l:List QC}(h:xQ l)(i:Nat):hU (tk l i):=by
 unfold Go.Proofs.YteampbddflhngaaGreat.tk;by_cases a:i<l.length
 ·rw[gL,yp a];exact h _ (zs a)
 ·rw[gL,kV (by omega)];exact LC
theorem dJ(l:List QC)(i:Nat):gB (zU l) i=(tk l i).2:=by
 unfold gB zU tk;by_cases a:i<l.length
 ·simp[List.getD_eq_getElem?_getD,a]
 ·simp[List.getD_eq_getElem?_getD,a]
theorem kg(l:List QC):(zU l).length=l.length:=by simp[zU]
theorem xQ.take{l:List QC}(h:xQ l)(n:Nat):xQ (l.take n):=fun x a=>h x (fV a)
theorem xQ.drop{l:List QC}(h:xQ l)(n:Nat):xQ (l.drop n):=fun x a=>h x (dQ a)
theorem qL{k c:Int}{b:Bool}(h:(k == c)=b):b=true↔k=c:=by subst h;simp
def Rs{α:Type}:List α->List α
 |[]=>[]
 |[x]=>[x]
 |x::_::r=>x::Rs r
theorem Ao{α:Type}(y:α):∀x:List α,Rs (x++[y])=Rs x++(if x.length%2=0 then [y] else [])
 |[]=>rfl
 |[a]=>rfl
 |a::b::r=>by
  have:=Ao y r;have c:(a::b::r).length%2=r.length%2:=by simp only[xi];omega
  rw[c];simp only[lR,Rs,this]
theorem Ee(l:κ):∀m,m<=l.length->uR l m=Rs ((l.drop 2).take (m-2))
 |0,_=>by simp[uR,Rs]
 |m+1,h=>by
  rw[uR,Ee l m (by omega)];by_cases a:2<=m
  ·have e:(l.drop 2).take (m+1-2)=(l.drop 2).take (m-2)++[gB l m]:=by
    rw[show m+1-2=(m-2)+1 by omega,List.take_add_one];congr 1;rw[List.getElem?_drop,show 2+(m-2)=m by omega,yp (by omega),xv (by omega)];rfl
   rw[e,Ao];congr 1;have b:((l.drop 2).take (m-2)).length=m-2:=by simp;omega
   rw[b];simp only[a,true_and];rw[show(m-2)%2=m%2 by omega]
  ·rw[show m+1-2=0 by omega,show m-2=0 by omega];simp[Rs,a]
theorem Ei(l:κ):∀m,qq l m=true↔∀i,2<=i->i<m->Su l i=true
 |0=>by simp[qq]
 |m+1=>by
  have e:=Ei l m;simp only[qq,uw,dX,decide_eq_true_eq,e];constructor
  ·rintro⟨c,a⟩ i b d;by_cases f:i=m
   ·subst f;rcases a with a|a
    ·omega
    ·exact a
   ·exact c i b (by omega)
  ·intro h;refine⟨fun i b d=>h i b (by omega),?_⟩;by_cases a:m<2
   ·exact zf a
   ·exact zb (h m (by omega) (by omega))
def SH(q:List QC):Prop:=q.length%2=1/\∀i,i<q.length->if i%2=0 then RA (tk q i).1=true else(tk q i).1=6
theorem dN(x:QC)(l:List QC)(i:Nat):tk (x::l) (i+1)=tk l i:=by simp[tk]
theorem fF(x:QC)(l:List QC):tk (x::l) 0=x:=by simp[tk]
theorem FH{ts:κ}{q:List QC}(h:fa ts q):SH q/\ts=Rs (zU q):=by
 induction h with
 |one b=>exact⟨⟨rfl,fun i a=>by simp at a;subst a;simpa [fF] using b⟩,rfl⟩
 |more b c _ d=>
  obtain⟨⟨g,e⟩,f⟩:=d;refine⟨⟨by simp only[xi];omega,fun i a=>?_⟩,by rw[f];rfl⟩;match i with
  |0=>simpa [fF] using b
  |1=>simpa [dN,fF] using c
  |i+2=>
   have:=e i (by simp only[xi] at a;omega);rw[dN,dN,show(i+2)%2=i%2 by omega];exact this
theorem DM:∀(q:List QC),SH q->fa (Rs (zU q)) q
 |[],h=>by have:=h.1;simp at this
 |[x],h=>by have:=h.2 0 (by simp);simp[fF] at this;exact .one this
 |x::y::r,h=>by
  have a:=h.2 0 (by simp);have b:=h.2 1 (by simp);simp[fF] at a;simp[dN,fF] at b;refine .more a b (DM r ⟨by have:=h.1;simp only[xi] at this;omega,fun i c=>?_⟩);have:=h.2 (i+2) (by simp only[xi];omega);rw[dN,dN,show(i+2)%2=i%2 by omega] at this;exact this
theorem Nm{r:List QC}{i:Nat}(h:i<p.length):tk (p++r) i=tk p i:=by
 simp[tk,List.getD_eq_getElem?_getD,List.getElem?_append_left h]
theorem Og{r:List QC}{c:QC}:tk (p++c::r) p.length=c:=by simp[tk,List.getD_eq_getElem?_getD]
theorem GH{neg:Bool}{n o c:QC}{q:List QC}(h:xQ (n::o::(q++[c])))(a:zj):
  xe neg (zU (n::o::(q++[c])))=some a↔n.1=1/\o.1=4/\c.1=5/\SH q/\a=⟨neg,n.2,Rs (zU q)⟩:=by
 have s:=qL (h n (by simp)).n;have v:=qL (h o (by simp)).k4;have u:=qL (h c (by simp)).k5;have y:gB (zU (n::o::(q++[c]))) 0=n.2:=by rw[dJ,fF]
 have w:gB (zU (n::o::(q++[c]))) 1=o.2:=by rw[dJ,dN,fF]
 have A:(zU (n::o::(q++[c]))).length=q.length+3:=by rw[kg];simp
 have B:gB (zU (n::o::(q++[c]))) (q.length+2)=c.2:=by rw[dJ,dN,dN,Og]
 have l:qq (zU (n::o::(q++[c]))) (q.length+2)=true↔∀i,i<q.length->if i%2=0 then RA (tk q i).1=true else(tk q i).1=6:=by
  have f:∀i,i<q.length->(Su (zU (n::o::(q++[c]))) (i+2)=true↔if i%2=0 then RA (tk q i).1=true else(tk q i).1=6):=by
   intro i k;have t:hU (tk q i):=xQ.tk (fun x z=>h x (by simp[z])) i;unfold Su;rw[dJ,dN,dN,Nm k,show(i+2)%2=i%2 by omega];split
   ·rw[t.t]
   ·exact qL t.k6
  rw[Ei];constructor
  ·intro m i k;exact(f i k).1 (m (i+2) (by omega) (by omega))
  ·intro m i F k;have:=(f (i-2) (by omega)).2 (m (i-2) (by omega));rwa [show i-2+2=i by omega] at this
 have b:uR (zU (n::o::(q++[c]))) (q.length+2)=Rs (zU q):=by
  rw[Ee _ _ (by omega)];simp[zU]
 unfold xe;rw[A,y,w,show q.length+3-1=q.length+2 by omega,B,b];rw[za (by omega)];by_cases j:n.1=1
 ·rw[za (by rw[s.2 j];simp),za (by omega)];by_cases d:q.length+3<4∨(q.length+3)%2=1∨(o.2.toList == [40])=false∨(c.2.toList == [41])=false
  ·rw[zc d];simp only[reduceCtorEq,false_iff];rintro⟨-,D,C,E,-⟩;rw[v.2 D,u.2 C] at d;have:=E.1;simp at d;omega
  ·rw[za d];simp only[not_or,rj] at d;have r:SH q↔qq (zU (n::o::(q++[c]))) (q.length+2)=true:=by
    rw[l];exact⟨fun h=>h.2,fun h=>⟨by omega,h⟩⟩
   by_cases g:qq (zU (n::o::(q++[c]))) (q.length+2)=true
   ·rw[zc g];simp only[zt];exact⟨fun e=>⟨j,v.1 d.2.2.1,u.1 d.2.2.2,r.2 g,e.symm⟩,fun e=>e.2.2.2.2.symm⟩
   ·rw[za g];simp only[reduceCtorEq,false_iff];exact fun e=>g (r.1 e.2.2.2.1)
 ·have:yN (QG n.2 0)=false:=by rw[←pS];exact fun e=>j (s.1 e)
  rw[zc this];simp only[reduceCtorEq,false_iff];exact fun e=>j e.1
theorem wU{neg:Bool}(h:xQ p)(a:zj):xe neg (zU p)=some a↔∃f,qt f p/\a={f with neg:=neg}:=by
 match p,h with
 |[],_=>
  simp only[xe,zU,List.map_nil,dK,if_true,reduceCtorEq,false_iff];rintro⟨f,b,-⟩;cases b
 |[n],h=>
  have s:=qL (h n (by simp)).n;have t:gB (zU [n]) 0=n.2:=by rw[dJ,fF]
  unfold xe;rw[kg,t];constructor
  ·intro e;cases j:yN (QG n.2 0) with
   |false=>simp[j] at e
   |true=>simp[j] at e;exact⟨_,.bare (s.1 j),e.symm⟩
  ·rintro⟨f,b,rfl⟩;cases b with
   |bare k=>simp[s.2 k]
 |n::o::r,h=>
  rcases tJ r with rfl|⟨q,c,rfl⟩
  ·constructor
   ·intro e;unfold xe at e;rw[kg] at e;simp at e
   ·rintro⟨f,b,rfl⟩;generalize d:[n,o]=p at b;cases b with
    |bare=>simp at d
    |args=>simp at d
  ·rw[tX] at h ⊢;rw[GH h];constructor
   ·rintro⟨m,g,i,l,rfl⟩;exact⟨_,.args m g (DM q l) i,rfl⟩
   ·rintro⟨f,b,rfl⟩;generalize d:n::o::(q++[c])=p at b;cases b with
    |bare=>simp at d
    |args m g u i=>
     simp only[mp] at d;obtain⟨rfl,rfl,d⟩:=d;have:=pN d rfl;simp only[mp,and_true] at this;obtain⟨rfl,rfl⟩:=this;obtain⟨l,rfl⟩:=FH u;exact⟨m,g,i,l,rfl⟩
theorem qt.qc{a:zj}(h:qt a p):{a with neg:=false}=a:=by cases h<;>rfl
theorem oA(h:xQ p)(a:zj):jB (zU p) true=some a↔qt a p:=by
 have c:Rr (zU p) true=false:=by simp[Rr]
 unfold jB;rw[c,za (by simp),wU h];exact⟨fun⟨d,b,e⟩=>by rw[e,b.qc];exact b,fun b=>⟨a,b,b.qc.symm⟩⟩
theorem tm(h:xQ p)(a:zj):jB (zU p) false=some a↔gN a p:=by
 cases p with
 |nil=>
  have k:Rr (zU []) false=false:=rfl;unfold jB;rw[k,za (by simp),wU h];constructor
  ·rintro⟨j,b,-⟩;cases b
  ·intro c;cases c with
   |qc b=>cases b
 |cons n r=>
  have d:=qL (h n (by simp)).k8;have g:Rr (zU (n::r)) false=(n.2.toList == [33]):=by
   unfold Rr;rw[dJ,fF,kg];simp
  unfold jB;rw[g];cases i:(n.2.toList == [33]) with
  |true=>
   have f:=d.1 i;rw[zc rfl,show(zU (n::r)).tail=zU r from rfl,wU (show xQ r from fun x l=>h x (by simp[l]))];constructor
   ·rintro⟨j,b,rfl⟩;exact .neg f b
   ·intro c;cases c with
    |qc b=>have:=b.hd [];simp[QT,f] at this
    |neg _ b=>exact⟨_,b,rfl⟩
  |false=>
   have f:n.1≠8:=fun e=>by rw[d.2 e] at i;exact zC i (by simp)
   rw[za (by simp),wU h];constructor
   ·rintro⟨j,b,rfl⟩;rw[b.qc];exact .qc b
   ·intro c;cases c with
    |qc b=>exact⟨_,b,b.qc.symm⟩
    |neg d _=>exact zC d f
end
section
variable {l r p:List QC}
theorem eS{f i:Nat}(b:f<=i)(a:i<l.length):l.drop f=(l.drop f).take (i-f)++l[i]::l.drop (i+1):=by
 have e:(l.drop f).drop (i-f)=l[i]::l.drop (i+1):=by
  rw[List.drop_drop,show f+(i-f)=i by omega,xn a]
 rw[←e,jt]
theorem pi(l:List QC)(f k:Nat):((zU l).drop f).take k=zU ((l.drop f).take k):=by simp[zU,List.map_take,List.map_drop]
theorem sa{i:Nat}(h:i<l.length):tk l i=l[i]:=by simp[tk,List.getD_eq_getElem?_getD,h]
theorem wH{i:Nat}{x:QC}(h:l.drop i=x::r):tk l i=x/\i<l.length/\l.drop (i+1)=r:=by
 have a:i<l.length:=by
  false_or_by_contra;rename_i b
  rw[uj (by omega)] at h;exact zC h (by simp)
 rw[xn a] at h;simp only[mp] at h;exact⟨by rw[sa a];exact h.1,a,h.2⟩
theorem J8(h:xQ l):∀(n f i:Nat) (d:Int) (b:List zj),f<=i->i+n=l.length+1->yG (zU l) n f d i=some b->gy b (l.drop f)∨(n=0/\b=[]):=by
 intro n;induction n with
 |zero=>intro f i d b _ _ e;simp[yG] at e;exact zb ⟨rfl,e⟩
 |succ n v=>
  intro f i d b w y e;left;have step:∀{k o j},k<=i+1->i<l.length->yG (zU l) n k o (i+1)=some j->gy j (l.drop k):=by
   intro k o j t z x;rcases v k (i+1) o j t (by omega) x with m|⟨rfl,-⟩
   ·exact m
   ·omega
  unfold yG at e;rw[kg] at e;by_cases c:i<l.length
  ·rw[zc c] at e;split at e
   ·exact step (by omega) c e
   ·split at e
    ·exact step (by omega) c e
    ·split at e
     ·exact step (by omega) c e
     ·rename_i q;split at e
      ·exact zC e (by simp)
      ·rename_i a g;rw[pi,tm ((h.drop f).take _)] at g;obtain⟨j,u,rfl⟩:=vM.1 e;have m:=step (zg _) c u;rw[eS w c];refine .more g ?_ m;have s:=qL (h.tk i).k6;rw[sa c] at s;apply s.1;simp only[not_or,rj] at q;have:=q.1;rwa [dJ,sa c] at this
  ·rw[za c] at e;split at e
   ·exact zC e (by simp)
   ·rename_i a g;rw[pi,tm ((h.drop f).take _)] at g;simp only[zt] at e;subst e;have:(l.drop f).take (i-f)=l.drop f:=xg (by simp;omega);rw[this] at g;exact .one g
def dep:Int->List QC->Option Int
 |d,[]=>some d
 |d,x::r=>if x.1=4 then dep (d+1) r else if x.1=5 then dep (d-1) r else if x.1≠6∨0<d then dep d r else none
theorem su:∀(p q:List QC) (d:Int),dep d (p++q)=(dep d p).bind fun a=>dep a q
 |[],q,d=>rfl
 |x::p,q,d=>by
  simp only[lR,dep];split
  ·exact su p q _
  ·split
   ·exact su p q _
   ·split
    ·exact su p q _
    ·rfl
theorem IA{ts:κ}(h:fa ts p){d:Int}(f:0<d):dep d p=some d:=by
 have b:∀{x:QC},RA x.1=true->x.1≠4/\x.1≠5/\x.1≠6:=by
  intro x a;simp[RA] at a;omega
 induction h with
 |one a=>have:=b a;simp[dep,this]
 |more a c _ e=>have:=b a;simp[dep,this,c,f,e]
theorem Bn{a:zj}(h:qt a p):dep 0 p=some 0:=by
 cases h with
 |bare b=>simp[dep,b]
 |args b f c e=>
  simp only[dep,b,f];simp only[su,IA c (d:=0+1) (by omega)];simp[dep,e]
theorem D7{a:zj}(h:gN a p):dep 0 p=some 0:=by
 cases h with
 |qc b=>exact Bn b
 |neg c b=>simp[dep,c,Bn b]
theorem iH{l:List QC}(h:xQ l)(f:Nat):∀(p r:List QC) (d g:Int) (i n:Nat),l.drop i=p++r->dep d p=some g->yG (zU l) (n+p.length) f d i=yG (zU l) n f g (i+p.length)
 |[],r,d,g,i,n,_,a=>by simp[dep] at a;subst a;rfl
 |x::p,r,d,g,i,n,u,a=>by
  obtain⟨s,y,v⟩:=wH u;have j:=h.tk i;rw[s] at j;have q:=qL j.k4;have o:=qL j.k5;have w:=qL j.k6;have c:=fun t=>iH h f p r t g (i+1) n v;rw[show n+(x::p).length=(n+p.length)+1 by simp only[xi];omega,show i+(x::p).length=i+1+p.length by simp only[xi];omega];rw[yG,kg,zc y,dJ,s];unfold dep at a;by_cases k:x.1=4
  ·rw[zc (q.2 k)];rw[zc k] at a;exact c _ a
  ·rw[za (fun e=>k (q.1 e))];rw[za k] at a;by_cases m:x.1=5
   ·rw[zc (o.2 m)];rw[zc m] at a;exact c _ a
   ·rw[za (fun e=>m (o.1 e))];rw[za m] at a;by_cases b:x.1≠6∨0<d
    ·rw[zc b] at a;rw[zc (by
      rcases b with b|b
      ·left;rw[←pS];exact fun e=>b (w.1 e)
      ·exact zb b)]
     exact c _ a
    ·rw[za b] at a;exact zC a (by simp)
theorem RD{f:Nat}(a:l.drop f=p++r):(l.drop f).take (f+p.length-f)=p:=by
 rw[a,show f+p.length-f=p.length by omega];simp
theorem oU{f:Nat}(a:l.drop f=p++r):l.drop (f+p.length)=r:=by
 rw[←List.drop_drop,a];simp
theorem Ga(h:xQ l){b:List zj}(o:gy b p):∀f,l.drop f=p->yG (zU l) (p.length+1) f 0 f=some b:=by
 induction o with
 |one j=>
  rename_i a p;intro f d;have g:l.drop f=p++[]:=by simpa using d
  rw[show p.length+1=1+p.length by omega,iH h f p [] 0 0 f 1 g (D7 j),yG,kg];have m:=oU g;rw[List.drop_eq_nil_iff] at m;rw[za (by omega),pi,RD g,(tm (by rw[←d];exact h.drop f) a).2 j]
 |more j t _ v=>
  rename_i a p q c b _;intro f d;have B:xQ p:=fun x y=>h x (dQ (i:=f) (by rw[d];simp[y]));have m:=oU d;obtain⟨n,A,s⟩:=wH m;have k:=h.tk (f+p.length);rw[n] at k;have z:=qL k.k4;have u:=qL k.k5;have w:=qL k.k6;rw[show(p++c::q).length+1=(q.length+1+1)+p.length by simp;omega,iH h f p (c::q) 0 0 f _ d (D7 j),yG,kg,zc A,dJ,n,
   za (fun e=>by have:=z.1 e;omega),za (fun e=>by have:=u.1 e;omega),za (by rw[w.2 t];simp),pi,RD d,(tm B a).2 j]
  simp only;rw[v (f+p.length+1) s];rfl
theorem C4(h:xQ l)(b:List zj):yG (zU l) ((zU l).length+1) 0 0 0=some b↔gy b l:=by
 rw[kg];constructor
 ·intro e;rcases J8 h _ 0 0 0 b (zg _) (by omega) e with a|⟨c,-⟩
  ·simpa using a
  ·omega
 ·intro a;exact Ga h a 0 (by simp)
end
section
variable {k:Int}{p l:List QC}
def No(k:Int)(l:List QC):Prop:=∀x∈l,x.1≠k
theorem No.app{q:List QC}(h:No k p)(g:No k q):No k (p++q):=fun x a=>(zI.1 a).elim (h x) (g x)
theorem No.cons{x:QC}{q:List QC}(h:x.1≠k)(g:No k q):No k (x::q):=fun y a=>by
 rcases zx.1 a with rfl|a
 ·exact h
 ·exact g y a
theorem No.nil(k:Int):No k []:=fun x a=>zC a (by simp)
theorem Nt{ts:κ}(h:fa ts p)(e:6<k):No k p:=by
 have b:∀{x:QC},RA x.1=true->x.1≠k:=by intro x a;simp[RA] at a;omega
 induction h with
 |one a=>exact .cons (b a) (.nil k)
 |more a d _ c=>exact .cons (b a) (.cons (by omega) c)
theorem pw{a:zj}(h:qt a p)(d:6<k):No k p:=by
 cases h with
 |bare b=>exact .cons (by omega) (.nil k)
 |args b f c e=>exact .cons (by omega) (.cons (by omega) (.app (Nt c d) (.cons (by omega) (.nil k))))
theorem Cp{a:zj}(h:gN a p)(c:k=7∨k=9):No k p:=by
 cases h with
 |qc b=>exact pw b (by omega)
 |neg d b=>exact .cons (by omega) (pw b (by omega))
theorem N7{b:List zj}(h:gy b p)(c:k=7∨k=9):No k p:=by
 induction h with
 |one a=>exact Cp a c
 |more a e _ d=>exact .app (Cp a c) (.cons (by omega) d)
theorem Nd{c:zd}(h:dW c p):No 7 p:=by
 cases h with
 |fact a=>exact pw a (by omega)
 |rule a d b=>exact .app (pw a (by omega)) (.cons (by omega) (N7 b (zf rfl)))
theorem iz:∀(p r:List QC),xQ p->No 9 p->xC (zU (p++r))=p.length+xC (zU r)
 |[],r,_,_=>by simp
 |x::p,r,h,b=>by
  have c:=qL (h x (by simp)).k9;have d:(x.2.toList == [58,45])=false:=by rw[←pS];exact fun e=>b x (by simp) (c.1 e)
  show xC (x.2::zU (p++r))=_;rw[xC,d,iz p r (fun y a=>h y (by simp[a])) (fun y a=>b y (by simp[a]))];simp only[xi];rw[za (by simp)];omega
theorem Dj:∀(l:List QC),xQ l->xC (zU l)<l.length->(tk l (xC (zU l))).1=9
 |[],_,h=>by simp at h
 |x::l,a,h=>by
  have c:=qL (a x (by simp)).k9;change xC (x.2::zU l)<_ at h;show(tk (x::l) (xC (x.2::zU l))).1=9;rw[xC] at h ⊢;cases b:(x.2.toList == [58,45]) with
  |true=>rw[zc rfl,fF];exact c.1 b
  |false=>
   rw[b,za (by simp)] at h;rw[za (by simp),dN];exact Dj l (fun y d=>a y (by simp[d])) (by simp only[xi] at h;omega)
theorem AE(l:List QC)(k:Nat):(zU l).take k=zU (l.take k):=by simp[zU,List.map_take]
theorem Ez(l:List QC)(k:Nat):(zU l).drop k=zU (l.drop k):=by simp[zU,List.map_drop]
theorem BN(h:xQ l)(c:zd):jK (zU l)=some c↔dW c l:=by
 constructor
 ·intro e;have r:=Es (zU l);rw[kg] at r;unfold jK at e;rw[AE,Ez,kg] at e;split at e
  ·exact zC e (by simp)
  ·rename_i B j;rw[oA (h.take _)] at j;split at e
   ·rename_i s;simp only[zt] at e;subst e;rw[s,xg (zg _)] at j;exact .fact j
   ·rename_i s;have d:xC (zU l)<l.length:=by omega
    split at e
    ·exact zC e (by simp)
    ·rename_i b t;rw[C4 (h.drop _)] at t;simp only[zt] at e;subst e;have g:=Dj l h d;rw[sa d] at g;have m:=eS (l:=l) (zv (xC (zU l))) d;rw[gR,Nat.sub_zero] at m;have A:=dW.rule j g t;rwa [←m] at A
 ·intro z;unfold jK;rw[AE,Ez,kg];cases z with
  |fact f=>
   have o:xC (zU l)=l.length:=by
    have:=iz l [] h (pw f (by omega));simpa [zU,xC] using this
   rw[o,xg (zg _),(oA h _).2 f];simp
  |rule f g w=>
   rename_i a b p q i;have u:xQ p:=fun x n=>h x (by simp[n]);have y:xQ q:=fun x n=>h x (by simp[n]);have o:xC (zU (p++i::q))=p.length:=by
    rw[iz p (i::q) u (pw f (by omega))];show p.length+xC (i.2::zU q)=_;rw[xC,(qL (h i (by simp)).k9).2 g];rfl
   rw[o];have v:(p++i::q).take p.length=p:=by simp
   have m:(p++i::q).drop (p.length+1)=q:=by rw[←List.drop_drop];simp
   rw[v,m,(oA u _).2 f,(C4 y _).2 w];simp only;rw[za (by simp)]
theorem L3(h:xQ l):∀(n f i:Nat) (cs:List zd),f<=i->i+n=l.length->qI (zU l) n f i=some cs->f9 cs (l.drop f):=by
 intro n;induction n with
 |zero=>
  intro f i cs j o e;unfold qI at e;rw[kg] at e;split at e
  ·rename_i s;simp only[zt] at e;subst e;rw[uj (by omega)];exact .nil
  ·exact zC e (by simp)
 |succ n g=>
  intro f i cs j o e;have b:i<l.length:=by omega
  unfold qI at e;rw[dJ,sa b] at e;split at e
  ·rename_i r;have q:=(qL (h l[i] (zs b)).k7).1 r;split at e
   ·exact zC e (by simp)
   ·rename_i c d;rw[pi,BN ((h.drop f).take _)] at d;obtain⟨m,a,rfl⟩:=vM.1 e;rw[eS j b];exact .cons d q (g _ _ _ (zg _) (by omega) a)
  ·exact g _ _ _ (by omega) (by omega) e
theorem Dl{l:List QC}(h:xQ l)(f:Nat):∀(p r:List QC) (i n:Nat),l.drop i=p++r->No 7 p->qI (zU l) (n+p.length) f i=qI (zU l) n f (i+p.length)
 |[],r,i,n,_,_=>rfl
 |x::p,r,i,n,d,c=>by
  obtain⟨a,o,m⟩:=wH d;have b:=h.tk i;rw[a] at b;have g:=qL b.k7;rw[show n+(x::p).length=(n+p.length)+1 by simp only[xi];omega,show i+(x::p).length=i+1+p.length by simp only[xi];omega];rw[qI,dJ,a,za (fun e=>c x (by simp) (g.1 e))];exact Dl h f p r (i+1) n m (fun y j=>c y (by simp[j]))
theorem FR(h:xQ l){cs:List zd}(n:f9 cs p):∀f,f<=l.length->l.drop f=p->qI (zU l) p.length f f=some cs:=by
 induction n with
 |nil=>
  intro f s a;rw[List.drop_eq_nil_iff] at a;rw[dK,qI,kg,zc (by omega)]
 |cons b j _ o=>
  rename_i c cs p q d _;intro f s a;have t:xQ p:=fun x r=>h x (dQ (i:=f) (by rw[a];simp[r]));have u:=oU a;obtain⟨g,v,m⟩:=wH u;have e:=h.tk (f+p.length);rw[g] at e;rw[show(p++d::q).length=(q.length+1)+p.length by simp;omega,Dl h f p (d::q) f _ a (Nd b),qI,dJ,g,zc ((qL e.k7).2 j),pi,RD a,(BN t c).2 b];simp only;rw[o (f+p.length+1) (by omega) m];rfl
theorem oh(h:xQ l)(cs:List zd):vj (zU l)=some cs↔f9 cs l:=by
 unfold vj;rw[kg];constructor
 ·intro e;have:=L3 h _ 0 0 cs (zg _) (by omega) e;simpa using this
 ·intro a;exact FR h a 0 (by omega) (by simp)
theorem LN(h:xQ l):vj (zU l)=yI l.length l.length l:=by
 apply Option.ext;intro a;show vj (zU l)=some a↔yI l.length l.length l=some a;rw[oh h,Lj]
theorem o8(s:ByteArray):(xh s.size s).bind vj=(QI s).bind fun l=>yI l.length l.length l:=by
 rw[ra];cases b:QI s with
 |none=>rfl
 |some l=>exact LN fun x a=>(p5 b x a).1
end
end Go.Proofs.YteampbddflhngaaGreat
