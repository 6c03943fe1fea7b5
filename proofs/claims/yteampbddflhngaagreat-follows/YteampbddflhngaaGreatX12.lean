import Derived.Test.YteampbddflhngaaGreatX10
namespace Go.Proofs.YteampbddflhngaaGreat
set_option linter.all false
section
variable {r p r2:List P4}{a:zj}
inductive dS:List ByteArray->List P4->Prop
 |one {x:P4}:Qw x.1=true->dS [x.2] [x]
 |more {x c:P4} {ts:List ByteArray} {r:List P4}:Qw x.1=true->c.1=6->dS ts r->dS (x.2::ts) (x::c::r)
inductive qe:zj->List P4->Prop
 |bare {n:P4}:n.1=1->qe ⟨false,n.2,[]⟩ [n]
 |args {n o c:P4} {ts:List ByteArray} {p:List P4}:n.1=1->o.1=4->dS ts p->c.1=5->qe ⟨false,n.2,ts⟩ (n::o::(p++[c]))
inductive kI:zj->List P4->Prop
 |qc {a:zj} {p:List P4}:qe a p->kI a p
 |neg {a:zj} {n:P4} {p:List P4}:n.1=8->qe a p->kI {a with neg:=true} (n::p)
inductive gi:List zj->List P4->Prop
 |one {a:zj} {p:List P4}:kI a p->gi [a] p
 |more {a:zj} {p q:List P4} {c:P4} {b:List zj}:kI a p->c.1=6->gi b q->gi (a::b) (p++c::q)
inductive fa:zc->List P4->Prop
 |fact {a:zj} {p:List P4}:qe a p->fa ⟨a,[]⟩ p
 |rule {a:zj} {b:List zj} {p q:List P4} {i:P4}:qe a p->i.1=9->gi b q->fa ⟨a,b⟩ (p++i::q)
inductive fc:List zc->List P4->Prop
 |nil:fc [] []
 |cons {c:zc} {cs:List zc} {p q:List P4} {d:P4}:fa c p->d.1=7->fc cs q->fc (c::cs) (p++d::q)
theorem lQ{k:Int}(b:k≠0)(h:PM r=k):∃x t,r=x::t/\x.1=k:=by
 cases r with
 |nil=>exact zB h.symm b
 |cons x t=>exact⟨x,t,rfl,h⟩
theorem oJ:∀(r:List P4) {ts:List ByteArray} {r2:List P4},yi r=some (ts,r2)->∃p,r=p++r2/\dS ts p
 |[],_,_,h=>by simp[yi] at h
 |[x],ts,r2,h=>by
  cases b:Qw x.1 with
  |false=>simp[yi,b] at h
  |true=>simp[yi,b] at h;obtain⟨rfl,rfl⟩:=h;exact⟨[x],rfl,.one b⟩
 |x::y::r,ts,r2,h=>by
  cases b:Qw x.1 with
  |false=>simp[yi,b] at h
  |true=>
   by_cases c:y.1=6
   ·simp only[yi,b,c,if_true] at h;obtain⟨⟨g,i⟩,e,d⟩:=vE.1 h;simp at d;obtain⟨rfl,rfl⟩:=d;obtain⟨p,rfl,f⟩:=oJ r e;exact⟨x::y::p,rfl,.more b c f⟩
   ·simp[yi,b,c] at h;obtain⟨rfl,rfl⟩:=h;exact⟨[x],rfl,.one b⟩
theorem EZ{ts:List ByteArray}(h:dS ts p)(c:PM r2≠6):yi (p++r2)=some (ts,r2):=by
 induction h with
 |one b=>exact C1 b c
 |more b e _ d=>simp only[hZ,yi,b,e,if_true];rw[d];rfl
theorem eW(h:yY r=some (a,r2)):∃p,r=p++r2/\qe a p:=by
 unfold yY at h;split at h
 ·rename_i g;obtain⟨n,t,rfl,e⟩:=lQ (by decide) g;by_cases b:PM t=4
  ·rw[zb (show PM (n::t).tail=4 from b)] at h;obtain⟨o,t,rfl,i⟩:=lQ (by decide) b;split at h
   ·exact zB h (by simp)
   ·rename_i m l d;split at h
    ·rename_i j;obtain⟨p,rfl,k⟩:=oJ _ d;obtain⟨c,t,rfl,f⟩:=lQ (by decide) j;simp at h;obtain⟨rfl,rfl⟩:=h;exact⟨n::o::(p++[c]),by simp,.args e i k f⟩
    ·exact zB h (by simp)
  ·rw[za (show ¬PM (n::t).tail=4 from b)] at h;simp at h;obtain⟨rfl,rfl⟩:=h;exact⟨[n],rfl,.bare e⟩
 ·exact zB h (by simp)
theorem sy(h:qe a p)(f:PM r2≠4):yY (p++r2)=some (a,r2):=by
 cases h with
 |bare b=>simp[yY,PM,b];intro h;exact zB h f
 |args b g i d=>
  rename_i n o c j p;have e:(n::o::(p++[c]))++r2=n::o::(p++(c::r2)):=by simp
  rw[e];simp only[yY,PM,b,g,if_true,hX,List.headD_cons];rw[EZ i (by simp[PM,d])];simp[d]
theorem qe.hd(h:qe a p)(r:List P4):PM (p++r)=1:=by cases h<;>assumption
theorem qe.len(h:qe a p):0<p.length:=by cases h<;>simp
theorem Fd(h:us r=some (a,r2)):∃p,r=p++r2/\kI a p:=by
 unfold us at h;split at h
 ·rename_i f;obtain⟨n,t,rfl,e⟩:=lQ (by decide) f;obtain⟨⟨i,j⟩,g,d⟩:=vE.1 h;simp at d;obtain⟨rfl,rfl⟩:=d;obtain⟨p,b,c⟩:=eW g;simp only[hX] at b;subst b;exact⟨n::p,rfl,.neg e c⟩
 ·obtain⟨p,b,c⟩:=eW h;exact⟨p,b,.qc c⟩
theorem oM(h:kI a p)(c:PM r2≠4):us (p++r2)=some (a,r2):=by
 cases h with
 |qc b=>unfold us;rw[b.hd,sy b c];rfl
 |neg d b=>simp only[us,hZ,PM,d,if_true,hX];rw[sy b c];rfl
theorem kI.len{a:zj}{p:List P4}(h:kI a p):0<p.length:=by cases h with
 |qc h=>exact h.len
 |neg _ h=>simp
theorem GE:∀{n:Nat} {r r2:List P4} {b:List zj},xE n r=some (b,r2)->∃p,r=p++r2/\gi b p:=by
 intro n;induction n with
 |zero=>intro r r2 b h;simp[xE] at h
 |succ n l=>
  intro r r2 b h;cases d:us r with
  |none=>rw[pI d] at h;exact zB h (by simp)
  |some z=>
   obtain⟨a,m⟩:=z;obtain⟨p,rfl,i⟩:=Fd d;by_cases e:PM m=6
   ·rw[pj d e] at h;obtain⟨⟨s,u⟩,k,f⟩:=vE.1 h;simp at f;obtain⟨rfl,rfl⟩:=f;obtain⟨c,t,rfl,o⟩:=lQ (by decide) e;obtain⟨q,g,j⟩:=l k;simp only[hX] at g;subst g;exact⟨p++c::q,by simp,.more i o j⟩
   ·rw[nU d e] at h;simp at h;obtain⟨rfl,rfl⟩:=h;exact⟨p,rfl,.one i⟩
theorem Ig{b:List zj}(h:gi b p)(i:PM r2≠4)(j:PM r2≠6):∀n,p.length<=n->xE n (p++r2)=some (b,r2):=by
 induction h with
 |one d=>
  intro n f;have:=d.len;obtain⟨m,rfl⟩:∃m,n=m+1:=⟨n-1,by omega⟩;rw[nU (oM d i) j]
 |more d g _ k=>
  rename_i a p q c b _;intro n f;simp only[yv,xd] at f;obtain⟨m,rfl⟩:∃m,n=m+1:=⟨n-1,by omega⟩;have e:(p++c::q)++r2=p++(c::(q++r2)):=by simp
  have l:=oM d (r2:=c::(q++r2)) (by simp[PM,g]);rw[e,pj l g,hX,k m (by omega)];rfl
theorem Iq{n:Nat}{c:zc}(h:vc n r=some (c,r2)):∃p d,r=p++d::r2/\d.1=7/\fa c p:=by
 unfold vc at h;split at h
 ·exact zB h (by simp)
 ·rename_i a u f;obtain⟨p,rfl,k⟩:=eW f;split at h
  ·rename_i l;obtain⟨i,t,rfl,o⟩:=lQ (by decide) l;split at h
   ·exact zB h (by simp)
   ·rename_i b s j;obtain⟨q,rfl,m⟩:=GE j;split at h
    ·rename_i e;obtain⟨d,t,rfl,g⟩:=lQ (by decide) e;simp at h;obtain⟨rfl,rfl⟩:=h;exact⟨p++i::q,d,by simp,g,.rule k o m⟩
    ·exact zB h (by simp)
  ·split at h
   ·rename_i e;obtain⟨d,t,rfl,g⟩:=lQ (by decide) e;simp at h;obtain⟨rfl,rfl⟩:=h;exact⟨p,d,rfl,g,.fact k⟩
   ·exact zB h (by simp)
theorem GV{c:zc}(h:fa c p){d:P4}(f:d.1=7)(r2:List P4)(n:Nat)(k:p.length<=n):vc n (p++d::r2)=some (c,r2):=by
 cases h with
 |fact g=>
  unfold vc;rw[sy g (by simp[PM,f])];simp[PM,f]
 |rule g j l=>
  rename_i a b p q i;simp only[yv,xd] at k;have e:(p++i::q)++d::r2=p++(i::(q++d::r2)):=by simp
  unfold vc;rw[e,sy g (by simp[PM,j])];simp only[PM,j,if_true,hX];rw[Ig l (by simp[PM,f]) (by simp[PM,f]) n (by omega)];simp[f]
theorem fa.len{c:zc}{p:List P4}(h:fa c p):0<p.length:=by cases h with
 |fact h=>exact h.len
 |rule h=>simp;omega
theorem Jb{n:Nat}:∀(m:Nat) {r:List P4} {cs:List zc},yF n m r=some cs->fc cs r:=by
 intro m;induction m with
 |zero=>
  intro r cs h;cases r with
  |nil=>simp[yF] at h;subst h;exact .nil
  |cons x r=>simp[yF] at h
 |succ m i=>
  intro r cs h;cases r with
  |nil=>simp[yF] at h;subst h;exact .nil
  |cons x r=>
   cases b:vc n (x::r) with
   |none=>rw[sK (by simp) b] at h;exact zB h (by simp)
   |some z=>
    rw[pP (by simp) b] at h;obtain⟨j,f,rfl⟩:=vE.1 h;obtain⟨p,d,e,g,c⟩:=Iq b;rw[e];exact .cons c g (i f)
theorem JU{n:Nat}{cs:List zc}(h:fc cs r):∀m,r.length<=m->r.length<=n->yF n m r=some cs:=by
 induction h with
 |nil=>intro m _ _;cases m<;>rfl
 |cons b e _ f=>
  intro m d c;have:=b.len;simp only[yv,xd] at d c;obtain⟨k,rfl⟩:∃k,m=k+1:=⟨m-1,by omega⟩;rw[pP (by simp) (GV b e _ n (by omega)),f k (by omega) (by omega)];rfl
theorem J5(l:List P4)(cs:List zc):yF l.length l.length l=some cs↔fc cs l:=
 ⟨Jb _,fun h=>JU h _ (zf _) (zf _)⟩
end
section
variable {p:List P4}
def xJ(l:List P4):Prop:=∀x∈l,fB x
def zU(l:List P4):List ByteArray:=l.map Prod.snd
def tk(l:List P4)(i:Nat):P4:=l.getD i (0,ByteArray.empty)
theorem KX:fB (0,ByteArray.empty):=by constructor<;>first|rfl|(show _=(ByteArray.empty.toList == _);rw[lu];rfl)
theorem xJ.tk{l:List P4}(h:xJ l)(i:Nat):fB (tk l i):=by
 unfold Go.Proofs.YteampbddflhngaaGreat.tk;by_cases a:i<l.length
 ·rw[gu,yr a];exact h _ (zv a)
 ·rw[gu,kp (by omega)];exact KX
theorem g6(l:List P4)(i:Nat):gB (zU l) i=(tk l i).2:=by
 unfold gB zU tk;by_cases a:i<l.length
 ·simp[List.getD_eq_getElem?_getD,a]
 ·simp[List.getD_eq_getElem?_getD,a]
theorem kd(l:List P4):(zU l).length=l.length:=by simp[zU]
theorem xJ.take{l:List P4}(h:xJ l)(n:Nat):xJ (l.take n):=fun x a=>h x (fU a)
theorem xJ.drop{l:List P4}(h:xJ l)(n:Nat):xJ (l.drop n):=fun x a=>h x (gZ a)
theorem qG{k c:Int}{b:Bool}(h:(k == c)=b):b=true↔k=c:=by subst h;simp
def Qi{α:Type}:List α->List α
 |[]=>[]
 |[x]=>[x]
 |x::_::r=>x::Qi r
theorem Cu{α:Type}(y:α):∀x:List α,Qi (x++[y])=Qi x++(if x.length%2=0 then [y] else [])
 |[]=>rfl
 |[a]=>rfl
 |a::b::r=>by
  have:=Cu y r;have c:(a::b::r).length%2=r.length%2:=by simp only[xd];omega
  rw[c];simp only[hZ,Qi,this]
theorem En(l:List ByteArray):∀m,m<=l.length->uB l m=Qi ((l.drop 2).take (m-2))
 |0,_=>by simp[uB,Qi]
 |m+1,h=>by
  rw[uB,En l m (by omega)];by_cases a:2<=m
  ·have e:(l.drop 2).take (m+1-2)=(l.drop 2).take (m-2)++[gB l m]:=by
    rw[show m+1-2=(m-2)+1 by omega,List.take_add_one];congr 1;rw[List.getElem?_drop,show 2+(m-2)=m by omega,yr (by omega),xu (by omega)];rfl
   rw[e,Cu];congr 1;have b:((l.drop 2).take (m-2)).length=m-2:=by simp;omega
   rw[b];simp only[a,true_and];rw[show(m-2)%2=m%2 by omega]
  ·rw[show m+1-2=0 by omega,show m-2=0 by omega];simp[Qi,a]
theorem Dv(l:List ByteArray):∀m,vK l m=true↔∀i,2<=i->i<m->Rh l i=true
 |0=>by simp[vK]
 |m+1=>by
  have f:=Dv l m;simp only[vK,vq,dX,decide_eq_true_eq,f];constructor
  ·rintro⟨d,a⟩ i b c;by_cases e:i=m
   ·subst e;rcases a with a|a
    ·omega
    ·exact a
   ·exact d i b (by omega)
  ·intro h;refine⟨fun i b c=>h i b (by omega),?_⟩;by_cases a:m<2
   ·exact zg a
   ·exact ze (h m (by omega) (by omega))
def RB(q:List P4):Prop:=q.length%2=1/\∀i,i<q.length->if i%2=0 then Qw (tk q i).1=true else(tk q i).1=6
theorem d8(x:P4)(l:List P4)(i:Nat):tk (x::l) (i+1)=tk l i:=by simp[tk]
theorem dM(x:P4)(l:List P4):tk (x::l) 0=x:=by simp[tk]
theorem IT{ts:List ByteArray}{q:List P4}(h:dS ts q):RB q/\ts=Qi (zU q):=by
 induction h with
 |one b=>exact⟨⟨rfl,fun i a=>by simp at a;subst a;simpa [dM] using b⟩,rfl⟩
 |more b f _ e=>
  obtain⟨⟨g,c⟩,d⟩:=e;refine⟨⟨by simp only[xd];omega,fun i a=>?_⟩,by rw[d];rfl⟩;match i with
  |0=>simpa [dM] using b
  |1=>simpa [d8,dM] using f
  |i+2=>
   have:=c i (by simp only[xd] at a;omega);rw[d8,d8,show(i+2)%2=i%2 by omega];exact this
theorem B5:∀(q:List P4),RB q->dS (Qi (zU q)) q
 |[],h=>by have:=h.1;simp at this
 |[x],h=>by have:=h.2 0 (by simp);simp[dM] at this;exact .one this
 |x::y::r,h=>by
  have a:=h.2 0 (by simp);have b:=h.2 1 (by simp);simp[dM] at a;simp[d8,dM] at b;refine .more a b (B5 r ⟨by have:=h.1;simp only[xd] at this;omega,fun i c=>?_⟩);have:=h.2 (i+2) (by simp only[xd];omega);rw[d8,d8,show(i+2)%2=i%2 by omega] at this;exact this
theorem JK{r:List P4}{i:Nat}(h:i<p.length):tk (p++r) i=tk p i:=by
 simp[tk,List.getD_eq_getElem?_getD,List.getElem?_append_left h]
theorem JI{r:List P4}{c:P4}:tk (p++c::r) p.length=c:=by simp[tk,List.getD_eq_getElem?_getD]
theorem N6{neg:Bool}{n o c:P4}{q:List P4}(h:xJ (n::o::(q++[c])))(a:zj):
  xe neg (zU (n::o::(q++[c])))=some a↔n.1=1/\o.1=4/\c.1=5/\RB q/\a=⟨neg,n.2,Qi (zU q)⟩:=by
 have u:=qG (h n (by simp)).n;have v:=qG (h o (by simp)).k4;have t:=qG (h c (by simp)).k5;have E:gB (zU (n::o::(q++[c]))) 0=n.2:=by rw[g6,dM]
 have A:gB (zU (n::o::(q++[c]))) 1=o.2:=by rw[g6,d8,dM]
 have B:(zU (n::o::(q++[c]))).length=q.length+3:=by rw[kd];simp
 have D:gB (zU (n::o::(q++[c]))) (q.length+2)=c.2:=by rw[g6,d8,d8,JI]
 have m:vK (zU (n::o::(q++[c]))) (q.length+2)=true↔∀i,i<q.length->if i%2=0 then Qw (tk q i).1=true else(tk q i).1=6:=by
  have f:∀i,i<q.length->(Rh (zU (n::o::(q++[c]))) (i+2)=true↔if i%2=0 then Qw (tk q i).1=true else(tk q i).1=6):=by
   intro i j;have r:fB (tk q i):=xJ.tk (fun x w=>h x (by simp[w])) i;unfold Rh;rw[g6,d8,d8,JK j,show(i+2)%2=i%2 by omega];split
   ·rw[r.t]
   ·exact qG r.k6
  rw[Dv];constructor
  ·intro l i j;exact(f i j).1 (l (i+2) (by omega) (by omega))
  ·intro l i F j;have:=(f (i-2) (by omega)).2 (l (i-2) (by omega));rwa [show i-2+2=i by omega] at this
 have d:uB (zU (n::o::(q++[c]))) (q.length+2)=Qi (zU q):=by
  rw[En _ _ (by omega)];simp[zU]
 unfold xe;rw[B,E,A,show q.length+3-1=q.length+2 by omega,D,d];rw[za (by omega)];by_cases k:n.1=1
 ·rw[za (by rw[u.2 k];simp),za (by omega)];by_cases b:q.length+3<4∨(q.length+3)%2=1∨(o.2.toList == [40])=false∨(c.2.toList == [41])=false
  ·rw[zb b];simp only[reduceCtorEq,false_iff];rintro⟨-,y,C,z,-⟩;rw[v.2 y,t.2 C] at b;have:=z.1;simp at b;omega
  ·rw[za b];simp only[not_or,pZ] at b;have s:RB q↔vK (zU (n::o::(q++[c]))) (q.length+2)=true:=by
    rw[m];exact⟨fun h=>h.2,fun h=>⟨by omega,h⟩⟩
   by_cases g:vK (zU (n::o::(q++[c]))) (q.length+2)=true
   ·rw[zb g];simp only[zr];exact⟨fun e=>⟨k,v.1 b.2.2.1,t.1 b.2.2.2,s.2 g,e.symm⟩,fun e=>e.2.2.2.2.symm⟩
   ·rw[za g];simp only[reduceCtorEq,false_iff];exact fun e=>g (s.1 e.2.2.2.1)
 ·have:yL (P8 n.2 0)=false:=by rw[←nI];exact fun e=>k (u.1 e)
  rw[zb this];simp only[reduceCtorEq,false_iff];exact fun e=>k e.1
theorem rL{neg:Bool}(h:xJ p)(a:zj):xe neg (zU p)=some a↔∃f,qe f p/\a={f with neg:=neg}:=by
 match p,h with
 |[],_=>
  simp only[xe,zU,List.map_nil,kE,if_true,reduceCtorEq,false_iff];rintro⟨f,b,-⟩;cases b
 |[n],h=>
  have s:=qG (h n (by simp)).n;have u:gB (zU [n]) 0=n.2:=by rw[g6,dM]
  unfold xe;rw[kd,u];constructor
  ·intro e;cases m:yL (P8 n.2 0) with
   |false=>simp[m] at e
   |true=>simp[m] at e;exact⟨_,.bare (s.1 m),e.symm⟩
  ·rintro⟨f,b,rfl⟩;cases b with
   |bare k=>simp[s.2 k]
 |n::o::r,h=>
  rcases su r with rfl|⟨q,c,rfl⟩
  ·constructor
   ·intro e;unfold xe at e;rw[kd] at e;simp at e
   ·rintro⟨f,b,rfl⟩;generalize d:[n,o]=p at b;cases b with
    |bare=>simp at d
    |args=>simp at d
  ·rw[sY] at h ⊢;rw[N6 h];constructor
   ·rintro⟨i,g,j,l,rfl⟩;exact⟨_,.args i g (B5 q l) j,rfl⟩
   ·rintro⟨f,b,rfl⟩;generalize d:n::o::(q++[c])=p at b;cases b with
    |bare=>simp at d
    |args i g t j=>
     simp only[ml] at d;obtain⟨rfl,rfl,d⟩:=d;have:=nB d rfl;simp only[ml,and_true] at this;obtain⟨rfl,rfl⟩:=this;obtain⟨l,rfl⟩:=IT t;exact⟨i,g,j,l,rfl⟩
theorem qe.qc{a:zj}(h:qe a p):{a with neg:=false}=a:=by cases h<;>rfl
theorem eb(h:xJ p)(a:zj):jw (zU p) true=some a↔qe a p:=by
 have c:Qg (zU p) true=false:=by simp[Qg]
 unfold jw;rw[c,za (by simp),rL h];exact⟨fun⟨d,b,e⟩=>by rw[e,b.qc];exact b,fun b=>⟨a,b,b.qc.symm⟩⟩
theorem sW(h:xJ p)(a:zj):jw (zU p) false=some a↔kI a p:=by
 cases p with
 |nil=>
  have l:Qg (zU []) false=false:=rfl;unfold jw;rw[l,za (by simp),rL h];constructor
  ·rintro⟨j,b,-⟩;cases b
  ·intro c;cases c with
   |qc b=>cases b
 |cons n r=>
  have f:=qG (h n (by simp)).k8;have i:Qg (zU (n::r)) false=(n.2.toList == [33]):=by
   unfold Qg;rw[g6,dM,kd];simp
  unfold jw;rw[i];cases g:(n.2.toList == [33]) with
  |true=>
   have d:=f.1 g;rw[zb rfl,show(zU (n::r)).tail=zU r from rfl,rL (show xJ r from fun x k=>h x (by simp[k]))];constructor
   ·rintro⟨j,b,rfl⟩;exact .neg d b
   ·intro c;cases c with
    |qc b=>have:=b.hd [];simp[PM,d] at this
    |neg _ b=>exact⟨_,b,rfl⟩
  |false=>
   have d:n.1≠8:=fun e=>by rw[f.2 e] at g;exact zB g (by simp)
   rw[za (by simp),rL h];constructor
   ·rintro⟨j,b,rfl⟩;rw[b.qc];exact .qc b
   ·intro c;cases c with
    |qc b=>exact⟨_,b,b.qc.symm⟩
    |neg f _=>exact zB f d
end
section
variable {l r p:List P4}
theorem eE{f i:Nat}(b:f<=i)(a:i<l.length):l.drop f=(l.drop f).take (i-f)++l[i]::l.drop (i+1):=by
 have e:(l.drop f).drop (i-f)=l[i]::l.drop (i+1):=by
  rw[List.drop_drop,show f+(i-f)=i by omega,xk a]
 rw[←e,qU]
theorem n7(l:List P4)(f k:Nat):((zU l).drop f).take k=zU ((l.drop f).take k):=by simp[zU,List.map_take,List.map_drop]
theorem px{i:Nat}(h:i<l.length):tk l i=l[i]:=by simp[tk,List.getD_eq_getElem?_getD,h]
theorem tr{i:Nat}{x:P4}(h:l.drop i=x::r):tk l i=x/\i<l.length/\l.drop (i+1)=r:=by
 have a:i<l.length:=by
  false_or_by_contra;rename_i b
  rw[ug (by omega)] at h;exact zB h (by simp)
 rw[xk a] at h;simp only[ml] at h;exact⟨by rw[px a];exact h.1,a,h.2⟩
theorem LH(h:xJ l):∀(n f i:Nat) (d:Int) (b:List zj),f<=i->i+n=l.length+1->yD (zU l) n f d i=some b->gi b (l.drop f)∨(n=0/\b=[]):=by
 intro n;induction n with
 |zero=>intro f i d b _ _ e;simp[yD] at e;exact ze ⟨rfl,e⟩
 |succ n x=>
  intro f i d b t z e;left;have step:∀{j o k},j<=i+1->i<l.length->yD (zU l) n j o (i+1)=some k->gi k (l.drop j):=by
   intro j o k v y w;rcases x j (i+1) o k v (by omega) w with m|⟨rfl,-⟩
   ·exact m
   ·omega
  unfold yD at e;rw[kd] at e;by_cases c:i<l.length
  ·rw[zb c] at e;split at e
   ·exact step (by omega) c e
   ·split at e
    ·exact step (by omega) c e
    ·split at e
     ·exact step (by omega) c e
     ·rename_i q;split at e
      ·exact zB e (by simp)
      ·rename_i a g;rw[n7,sW ((h.drop f).take _)] at g;obtain⟨k,u,rfl⟩:=vE.1 e;have m:=step (zf _) c u;rw[eE t c];refine .more g ?_ m;have s:=qG (h.tk i).k6;rw[px c] at s;apply s.1;simp only[not_or,pZ] at q;have:=q.1;rwa [g6,px c] at this
  ·rw[za c] at e;split at e
   ·exact zB e (by simp)
   ·rename_i a g;rw[n7,sW ((h.drop f).take _)] at g;simp only[zr] at e;subst e;have:(l.drop f).take (i-f)=l.drop f:=xi (by simp;omega);rw[this] at g;exact .one g
def dep:Int->List P4->Option Int
 |d,[]=>some d
 |d,x::r=>if x.1=4 then dep (d+1) r else if x.1=5 then dep (d-1) r else if x.1≠6∨0<d then dep d r else none
theorem tC:∀(p q:List P4) (d:Int),dep d (p++q)=(dep d p).bind fun a=>dep a q
 |[],q,d=>rfl
 |x::p,q,d=>by
  simp only[hZ,dep];split
  ·exact tC p q _
  ·split
   ·exact tC p q _
   ·split
    ·exact tC p q _
    ·rfl
theorem Kl{ts:List ByteArray}(h:dS ts p){d:Int}(c:0<d):dep d p=some d:=by
 have b:∀{x:P4},Qw x.1=true->x.1≠4/\x.1≠5/\x.1≠6:=by
  intro x a;simp[Qw] at a;omega
 induction h with
 |one a=>have:=b a;simp[dep,this]
 |more a f _ e=>have:=b a;simp[dep,this,f,c,e]
theorem Ab{a:zj}(h:qe a p):dep 0 p=some 0:=by
 cases h with
 |bare b=>simp[dep,b]
 |args b e c f=>
  simp only[dep,b,e];simp only[tC,Kl c (d:=0+1) (by omega)];simp[dep,f]
theorem B8{a:zj}(h:kI a p):dep 0 p=some 0:=by
 cases h with
 |qc b=>exact Ab b
 |neg c b=>simp[dep,c,Ab b]
theorem we{l:List P4}(h:xJ l)(f:Nat):∀(p r:List P4) (d g:Int) (i n:Nat),l.drop i=p++r->dep d p=some g->yD (zU l) (n+p.length) f d i=yD (zU l) n f g (i+p.length)
 |[],r,d,g,i,n,_,a=>by simp[dep] at a;subst a;rfl
 |x::p,r,d,g,i,n,w,a=>by
  obtain⟨o,t,v⟩:=tr w;have m:=h.tk i;rw[o] at m;have q:=qG m.k4;have s:=qG m.k5;have u:=qG m.k6;have b:=fun y=>we h f p r y g (i+1) n v;rw[show n+(x::p).length=(n+p.length)+1 by simp only[xd];omega,show i+(x::p).length=i+1+p.length by simp only[xd];omega];rw[yD,kd,zb t,g6,o];unfold dep at a;by_cases j:x.1=4
  ·rw[zb (q.2 j)];rw[zb j] at a;exact b _ a
  ·rw[za (fun e=>j (q.1 e))];rw[za j] at a;by_cases k:x.1=5
   ·rw[zb (s.2 k)];rw[zb k] at a;exact b _ a
   ·rw[za (fun e=>k (s.1 e))];rw[za k] at a;by_cases c:x.1≠6∨0<d
    ·rw[zb c] at a;rw[zb (by
      rcases c with c|c
      ·left;rw[←nI];exact fun e=>c (u.1 e)
      ·exact ze c)]
     exact b _ a
    ·rw[za c] at a;exact zB a (by simp)
theorem Qy{f:Nat}(a:l.drop f=p++r):(l.drop f).take (f+p.length-f)=p:=by
 rw[a,show f+p.length-f=p.length by omega];simp
theorem oq{f:Nat}(a:l.drop f=p++r):l.drop (f+p.length)=r:=by
 rw[←List.drop_drop,a];simp
theorem Fx(h:xJ l){b:List zj}(u:gi b p):∀f,l.drop f=p->yD (zU l) (p.length+1) f 0 f=some b:=by
 induction u with
 |one j=>
  rename_i a p;intro f g;have d:l.drop f=p++[]:=by simpa using g
  rw[show p.length+1=1+p.length by omega,we h f p [] 0 0 f 1 d (B8 j),yD,kd];have m:=oq d;rw[List.drop_eq_nil_iff] at m;rw[za (by omega),n7,Qy d,(sW (by rw[←g];exact h.drop f) a).2 j]
 |more j B _ z=>
  rename_i a p q c b _;intro f g;have w:xJ p:=fun x o=>h x (gZ (i:=f) (by rw[g];simp[o]));have m:=oq g;obtain⟨n,y,t⟩:=tr m;have k:=h.tk (f+p.length);rw[n] at k;have v:=qG k.k4;have A:=qG k.k5;have s:=qG k.k6;rw[show(p++c::q).length+1=(q.length+1+1)+p.length by simp;omega,we h f p (c::q) 0 0 f _ g (B8 j),yD,kd,zb y,g6,n,
   za (fun e=>by have:=v.1 e;omega),za (fun e=>by have:=A.1 e;omega),za (by rw[s.2 B];simp),n7,Qy g,(sW w a).2 j]
  simp only;rw[z (f+p.length+1) t];rfl
theorem DS(h:xJ l)(b:List zj):yD (zU l) ((zU l).length+1) 0 0 0=some b↔gi b l:=by
 rw[kd];constructor
 ·intro e;rcases LH h _ 0 0 0 b (zf _) (by omega) e with a|⟨c,-⟩
  ·simpa using a
  ·omega
 ·intro a;exact Fx h a 0 (by simp)
end
section
variable {k:Int}{p l:List P4}
def No(k:Int)(l:List P4):Prop:=∀x∈l,x.1≠k
theorem No.app{q:List P4}(h:No k p)(g:No k q):No k (p++q):=fun x a=>(zX.1 a).elim (h x) (g x)
theorem No.cons{x:P4}{q:List P4}(h:x.1≠k)(g:No k q):No k (x::q):=fun y a=>by
 rcases zu.1 a with rfl|a
 ·exact h
 ·exact g y a
theorem No.nil(k:Int):No k []:=fun x a=>zB a (by simp)
theorem G3{ts:List ByteArray}(h:dS ts p)(d:6<k):No k p:=by
 have b:∀{x:P4},Qw x.1=true->x.1≠k:=by intro x a;simp[Qw] at a;omega
 induction h with
 |one a=>exact .cons (b a) (.nil k)
 |more a e _ c=>exact .cons (b a) (.cons (by omega) c)
theorem nS{a:zj}(h:qe a p)(d:6<k):No k p:=by
 cases h with
 |bare b=>exact .cons (by omega) (.nil k)
 |args b e c f=>exact .cons (by omega) (.cons (by omega) (.app (G3 c d) (.cons (by omega) (.nil k))))
theorem DK{a:zj}(h:kI a p)(d:k=7∨k=9):No k p:=by
 cases h with
 |qc b=>exact nS b (by omega)
 |neg c b=>exact .cons (by omega) (nS b (by omega))
theorem ND{b:List zj}(h:gi b p)(c:k=7∨k=9):No k p:=by
 induction h with
 |one a=>exact DK a c
 |more a e _ d=>exact .app (DK a c) (.cons (by omega) d)
theorem MW{c:zc}(h:fa c p):No 7 p:=by
 cases h with
 |fact a=>exact nS a (by omega)
 |rule a d b=>exact .app (nS a (by omega)) (.cons (by omega) (ND b (zg rfl)))
theorem oh:∀(p r:List P4),xJ p->No 9 p->xB (zU (p++r))=p.length+xB (zU r)
 |[],r,_,_=>by simp
 |x::p,r,h,b=>by
  have d:=qG (h x (by simp)).k9;have c:(x.2.toList == [58,45])=false:=by rw[←nI];exact fun e=>b x (by simp) (d.1 e)
  show xB (x.2::zU (p++r))=_;rw[xB,c,oh p r (fun y a=>h y (by simp[a])) (fun y a=>b y (by simp[a]))];simp only[xd];rw[za (by simp)];omega
theorem DR:∀(l:List P4),xJ l->xB (zU l)<l.length->(tk l (xB (zU l))).1=9
 |[],_,h=>by simp at h
 |x::l,a,h=>by
  have c:=qG (a x (by simp)).k9;change xB (x.2::zU l)<_ at h;show(tk (x::l) (xB (x.2::zU l))).1=9;rw[xB] at h ⊢;cases b:(x.2.toList == [58,45]) with
  |true=>rw[zb rfl,dM];exact c.1 b
  |false=>
   rw[b,za (by simp)] at h;rw[za (by simp),d8];exact DR l (fun y d=>a y (by simp[d])) (by simp only[xd] at h;omega)
theorem Au(l:List P4)(k:Nat):(zU l).take k=zU (l.take k):=by simp[zU,List.map_take]
theorem AH(l:List P4)(k:Nat):(zU l).drop k=zU (l.drop k):=by simp[zU,List.map_drop]
theorem By(h:xJ l)(c:zc):jL (zU l)=some c↔fa c l:=by
 constructor
 ·intro e;have o:=Dl (zU l);rw[kd] at o;unfold jL at e;rw[Au,AH,kd] at e;split at e
  ·exact zB e (by simp)
  ·rename_i B m;rw[eb (h.take _)] at m;split at e
   ·rename_i t;simp only[zr] at e;subst e;rw[t,xi (zf _)] at m;exact .fact m
   ·rename_i t;have d:xB (zU l)<l.length:=by omega
    split at e
    ·exact zB e (by simp)
    ·rename_i b s;rw[DS (h.drop _)] at s;simp only[zr] at e;subst e;have j:=DR l h d;rw[px d] at j;have g:=eE (l:=l) (zx (xB (zU l))) d;rw[gW,Nat.sub_zero] at g;have A:=fa.rule m j s;rwa [←g] at A
 ·intro w;unfold jL;rw[Au,AH,kd];cases w with
  |fact f=>
   have r:xB (zU l)=l.length:=by
    have:=oh l [] h (nS f (by omega));simpa [zU,xB] using this
   rw[r,xi (zf _),(eb h _).2 f];simp
  |rule f j v=>
   rename_i a b p q i;have u:xJ p:=fun x n=>h x (by simp[n]);have y:xJ q:=fun x n=>h x (by simp[n]);have r:xB (zU (p++i::q))=p.length:=by
    rw[oh p (i::q) u (nS f (by omega))];show p.length+xB (i.2::zU q)=_;rw[xB,(qG (h i (by simp)).k9).2 j];rfl
   rw[r];have z:(p++i::q).take p.length=p:=by simp
   have g:(p++i::q).drop (p.length+1)=q:=by rw[←List.drop_drop];simp
   rw[z,g,(eb u _).2 f,(DS y _).2 v];simp only;rw[za (by simp)]
theorem Iy(h:xJ l):∀(n f i:Nat) (cs:List zc),f<=i->i+n=l.length->vT (zU l) n f i=some cs->fc cs (l.drop f):=by
 intro n;induction n with
 |zero=>
  intro f i cs d m e;unfold vT at e;rw[kd] at e;split at e
  ·rename_i s;simp only[zr] at e;subst e;rw[ug (by omega)];exact .nil
  ·exact zB e (by simp)
 |succ n g=>
  intro f i cs d m e;have b:i<l.length:=by omega
  unfold vT at e;rw[g6,px b] at e;split at e
  ·rename_i o;have r:=(qG (h l[i] (zv b)).k7).1 o;split at e
   ·exact zB e (by simp)
   ·rename_i c j;rw[n7,By ((h.drop f).take _)] at j;obtain⟨q,a,rfl⟩:=vE.1 e;rw[eE d b];exact .cons j r (g _ _ _ (zf _) (by omega) a)
  ·exact g _ _ _ (by omega) (by omega) e
theorem Cg{l:List P4}(h:xJ l)(f:Nat):∀(p r:List P4) (i n:Nat),l.drop i=p++r->No 7 p->vT (zU l) (n+p.length) f i=vT (zU l) n f (i+p.length)
 |[],r,i,n,_,_=>rfl
 |x::p,r,i,n,g,a=>by
  obtain⟨c,o,j⟩:=tr g;have b:=h.tk i;rw[c] at b;have m:=qG b.k7;rw[show n+(x::p).length=(n+p.length)+1 by simp only[xd];omega,show i+(x::p).length=i+1+p.length by simp only[xd];omega];rw[vT,g6,c,za (fun e=>a x (by simp) (m.1 e))];exact Cg h f p r (i+1) n j (fun y d=>a y (by simp[d]))
theorem ET(h:xJ l){cs:List zc}(t:fc cs p):∀f,f<=l.length->l.drop f=p->vT (zU l) p.length f f=some cs:=by
 induction t with
 |nil=>
  intro f j a;rw[List.drop_eq_nil_iff] at a;rw[kE,vT,kd,zb (by omega)]
 |cons e s _ r=>
  rename_i c cs p q d _;intro f j a;have u:xJ p:=fun x m=>h x (gZ (i:=f) (by rw[a];simp[m]));have o:=oq a;obtain⟨b,v,n⟩:=tr o;have g:=h.tk (f+p.length);rw[b] at g;rw[show(p++d::q).length=(q.length+1)+p.length by simp;omega,Cg h f p (d::q) f _ a (MW e),vT,g6,b,zb ((qG g.k7).2 s),n7,Qy a,(By u c).2 e];simp only;rw[r (f+p.length+1) (by omega) n];rfl
theorem iy(h:xJ l)(cs:List zc):uT (zU l)=some cs↔fc cs l:=by
 unfold uT;rw[kd];constructor
 ·intro e;have:=Iy h _ 0 0 cs (zf _) (by omega) e;simpa using this
 ·intro a;exact ET h a 0 (by omega) (by simp)
theorem KR(h:xJ l):uT (zU l)=yF l.length l.length l:=by
 apply Option.ext;intro a;show uT (zU l)=some a↔yF l.length l.length l=some a;rw[iy h,J5]
theorem ox(s:ByteArray):(xa s.size s).bind uT=(PA s).bind fun l=>yF l.length l.length l:=by
 rw[pA];cases b:PA s with
 |none=>rfl
 |some l=>exact KR fun x a=>(nR b x a).1
end
end Go.Proofs.YteampbddflhngaaGreat
