import Derived.Test.YteampbddflhngaaGreatV08
namespace Go.Proofs.YteampbddflhngaaGreat
set_option linter.all false
section
variable {t:ByteArray}
theorem eK(t:ByteArray)(i:Nat):Pi t i=((t.toList[i]?.map fun b=>(b.toNat:Int)).getD 0):=by
 rw[lx];by_cases h:i<t.size
 ·rw[vY h,yq (by simpa using h)];rfl
 ·rw[np h,kR (by simpa using h)];rfl
theorem wK(t:ByteArray):t.toList.length=t.size:=by rw[lx];simp
theorem GU(h:t.size=1)(c:UInt8):(t.toList == [c])=(Pi t 0 == (c.toNat:Int)):=by
 have b:=(wK t).trans h;rw[eK];revert b
 generalize t.toList=l;intro b;match l,b with
 |[a],_=>
  by_cases d:a=c
  ·subst d;simp
  ·have:a.toNat≠c.toNat:=fun h=>d (UInt8.toNat_inj.1 h);rw[show([a] == [c])=false by simpa using d];simp;omega
theorem JK{c:UInt8}{r:List UInt8}(h:Pi t 0≠(c.toNat:Int)):(t.toList == c::r)=false:=by
 rw[beq_eq_false_iff_ne];intro a;apply h;rw[eK,a];rfl
structure fh (x:Pd):Prop where
 n:(x.1 == 1)=yQ (Pi x.2 0)
 t:PY x.1=P9 (Pi x.2 0)
 k4:(x.1 == 4)=(x.2.toList == [40])
 k5:(x.1 == 5)=(x.2.toList == [41])
 k6:(x.1 == 6)=(x.2.toList == [44])
 k7:(x.1 == 7)=(x.2.toList == [46])
 k8:(x.1 == 8)=(x.2.toList == [33])
 k9:(x.1 == 9)=(x.2.toList == [58,45])
theorem NN(h:P9 (Pi t 0)=true)(c:UInt8)(b:P9 (c.toNat:Int)=false)(r:List UInt8):(t.toList == c::r)=false:=by
 apply JK;intro a;rw[a,b] at h;exact zC h (by simp)
theorem eQ{k:Int}(h:P9 (Pi t 0)=true)(a:k=1∨k=2∨k=3)(b:(k == 1)=yQ (Pi t 0)):fh (k,t):=by
 refine⟨b,?_,?_,?_,?_,?_,?_,?_⟩
 ·rw[h];rcases a with h|h|h<;>subst h<;>rfl
 all_goals
  show _=(t.toList == _::_);rw[NN h _ (by decide)];rcases a with h|h|h<;>subst h<;>rfl
theorem I1(g:t.size=2)(c:Pi t 0=58)(d:Pi t 1=45):fh (9,t):=by
 have e:t.toList=[58,45]:=by
  have f:=(wK t).trans g;rw[eK] at c d;revert f c d
  generalize t.toList=l;intro c d f;match l,f,c,d with
  |[a,b],_,c,d=>
   have c:(a.toNat:Int)=58:=c;have d:(b.toNat:Int)=45:=d;have h:a=58:=UInt8.toNat_inj.1 (by simpa using(by omega:a.toNat=58));have i:b=45:=UInt8.toNat_inj.1 (by simpa using(by omega:b.toNat=45));rw[h,i]
 constructor<;>(try rw[c])<;>(try (show _=(t.toList == _);rw[e]))<;>rfl
theorem FF{k c:Int}(e:t.size=1)(d:Pi t 0=c)(a:gL c=k)(f:k≠0):fh (k,t):=by
 have b:c=40∨c=41∨c=44∨c=46∨c=33:=by unfold gL at a;(repeat' split at a)<;>omega
 have i:(t.toList == [58,45])=false:=by
  rw[beq_eq_false_iff_ne];intro g;have:=wK t;rw[g,e] at this;simp at this
 constructor
 case n=>show _=yQ (Pi t 0);rw[d];rcases b with h|h|h|h|h<;>subst h<;>subst a<;>rfl
 case t=>show _=P9 (Pi t 0);rw[d];rcases b with h|h|h|h|h<;>subst h<;>subst a<;>rfl
 case k9=>show _=(t.toList == _);rw[i];rcases b with h|h|h|h|h<;>subst h<;>subst a<;>rfl
 all_goals
  show _=(t.toList == _);rw[GU e,d];rcases b with h|h|h|h|h<;>subst h<;>subst a<;>rfl
theorem Lu(s:ByteArray)(i:Nat)(k:Int)(h:i<s.size)(b:xa (Pi s i) (Pi s (i+1))=k)(d:k≠0):fh (k,s.extract i (yi s i k))/\0<(s.extract i (yi s i k)).size:=by
 have j:=pP s i k h b d;have g:(s.extract i (yi s i k)).size=yi s i k-i:=by rw[ByteArray.size_extract];omega
 refine⟨?_,by omega⟩;have a:Pi (s.extract i (yi s i k)) 0=Pi s i:=iA s i _ 0 j.2 (by omega);have f:=fun(m:i+1<yi s i k)=>iA s i _ 1 j.2 m;unfold xa at b;split at b
 ·rename_i c;subst b;exact eQ (by rw[a];simp[P9,c]) (zf rfl) (by rw[a,c];rfl)
 ·rename_i e;split at b
  ·rename_i c;subst b;exact eQ (by rw[a];simp[P9,c]) (ze (zf rfl)) (by rw[a];simp[e])
  ·rename_i p;split at b
   ·rename_i c;subst b;exact eQ (by rw[a];simp[P9,c]) (ze (ze rfl)) (by rw[a];simp[e])
   ·split at b
    ·rename_i n c;subst b;have q:yi s i 9=i+2:=by simp[yi]
     exact I1 (by rw[g,q];omega) (by rw[a];exact c.1) (by rw[f (by omega)];exact c.2)
    ·have l:yi s i k=i+1:=by
      have o:k≠9/\k≠1/\k≠2/\k≠3:=by subst b;unfold gL;(repeat' split)<;>simp
      simp[yi,d,o]
     exact FF (by rw[g,l];omega) a b d
theorem LY(s:ByteArray):∀(n i:Nat) (l:List Pd),Pn n s i=some l->∀x∈l,fh x/\0<x.2.size:=by
 intro n;induction n with
 |zero=>intro i l h;simp[Pn] at h;subst h;simp
 |succ n f=>
  intro i l h;by_cases b:i<s.size
  ·cases c:vT (Pi s i) with
   |true=>rw[sX b c] at h;exact f _ _ h
   |false=>
    generalize d:xa (Pi s i) (Pi s (i+1))=k;by_cases a:k=0
    ·subst a;rw[tD b c d] at h;exact zC h (by simp)
    ·by_cases g:6<yi s i k-i
     ·rw[td b c d g] at h;exact zC h (by simp)
     ·rw[tF b c d a g] at h;obtain⟨r,j,rfl⟩:=vr.1 h;intro x e;rcases zw.1 e with rfl|e
      ·exact Lu s i k b d a
      ·exact f _ _ j x e
  ·rw[nN b] at h;simp at h;subst h;simp
theorem pj{s:ByteArray}{l:List Pd}(h:Pl s=some l):∀x∈l,fh x/\0<x.2.size:=LY s _ _ l h
end
section
variable {r p r2:List Pd}{a:zj}
inductive dB:List ByteArray->List Pd->Prop
 |one {x:Pd}:PY x.1=true->dB [x.2] [x]
 |more {x c:Pd} {ts:List ByteArray} {r:List Pd}:PY x.1=true->c.1=6->dB ts r->dB (x.2::ts) (x::c::r)
inductive qq:zj->List Pd->Prop
 |bare {n:Pd}:n.1=1->qq ⟨false,n.2,[]⟩ [n]
 |args {n o c:Pd} {ts:List ByteArray} {p:List Pd}:n.1=1->o.1=4->dB ts p->c.1=5->qq ⟨false,n.2,ts⟩ (n::o::(p++[c]))
inductive kT:zj->List Pd->Prop
 |qc {a:zj} {p:List Pd}:qq a p->kT a p
 |neg {a:zj} {n:Pd} {p:List Pd}:n.1=8->qq a p->kT {a with neg:=true} (n::p)
inductive gu:List zj->List Pd->Prop
 |one {a:zj} {p:List Pd}:kT a p->gu [a] p
 |more {a:zj} {p q:List Pd} {c:Pd} {b:List zj}:kT a p->c.1=6->gu b q->gu (a::b) (p++c::q)
inductive dA:zc->List Pd->Prop
 |fact {a:zj} {p:List Pd}:qq a p->dA ⟨a,[]⟩ p
 |rule {a:zj} {b:List zj} {p q:List Pd} {i:Pd}:qq a p->i.1=9->gu b q->dA ⟨a,b⟩ (p++i::q)
inductive dK:List zc->List Pd->Prop
 |nil:dK [] []
 |cons {c:zc} {cs:List zc} {p q:List Pd} {d:Pd}:dA c p->d.1=7->dK cs q->dK (c::cs) (p++d::q)
theorem lT{k:Int}(b:k≠0)(h:Pw r=k):∃x t,r=x::t/\x.1=k:=by
 cases r with
 |nil=>exact zC h.symm b
 |cons x t=>exact⟨x,t,rfl,h⟩
theorem Cf:∀(r:List Pd) {ts:List ByteArray} {r2:List Pd},yd r=some (ts,r2)->∃p,r=p++r2/\dB ts p
 |[],_,_,h=>by simp[yd] at h
 |[x],ts,r2,h=>by
  cases b:PY x.1 with
  |false=>simp[yd,b] at h
  |true=>simp[yd,b] at h;obtain⟨rfl,rfl⟩:=h;exact⟨[x],rfl,.one b⟩
 |x::y::r,ts,r2,h=>by
  cases b:PY x.1 with
  |false=>simp[yd,b] at h
  |true=>
   by_cases c:y.1=6
   ·simp only[yd,b,c,if_true] at h;obtain⟨⟨i,g⟩,f,d⟩:=vr.1 h;simp at d;obtain⟨rfl,rfl⟩:=d;obtain⟨p,rfl,e⟩:=Cf r f;exact⟨x::y::p,rfl,.more b c e⟩
   ·simp[yd,b,c] at h;obtain⟨rfl,rfl⟩:=h;exact⟨[x],rfl,.one b⟩
theorem JE{ts:List ByteArray}(h:dB ts p)(c:Pw r2≠6):yd (p++r2)=some (ts,r2):=by
 induction h with
 |one b=>exact Cp b c
 |more b d _ e=>simp only[f5,yd,b,d,if_true];rw[e];rfl
theorem ek(h:yV r=some (a,r2)):∃p,r=p++r2/\qq a p:=by
 unfold yV at h;split at h
 ·rename_i j;obtain⟨n,t,rfl,e⟩:=lT (by decide) j;by_cases b:Pw t=4
  ·rw[zb (show Pw (n::t).tail=4 from b)] at h;obtain⟨o,t,rfl,i⟩:=lT (by decide) b;split at h
   ·exact zC h (by simp)
   ·rename_i l m d;split at h
    ·rename_i f;obtain⟨p,rfl,g⟩:=Cf _ d;obtain⟨c,t,rfl,k⟩:=lT (by decide) f;simp at h;obtain⟨rfl,rfl⟩:=h;exact⟨n::o::(p++[c]),by simp,.args e i g k⟩
    ·exact zC h (by simp)
  ·rw[za (show ¬Pw (n::t).tail=4 from b)] at h;simp at h;obtain⟨rfl,rfl⟩:=h;exact⟨[n],rfl,.bare e⟩
 ·exact zC h (by simp)
theorem tR(h:qq a p)(i:Pw r2≠4):yV (p++r2)=some (a,r2):=by
 cases h with
 |bare b=>simp[yV,Pw,b];intro h;exact zC h i
 |args b g f d=>
  rename_i n o c j p;have e:(n::o::(p++[c]))++r2=n::o::(p++(c::r2)):=by simp
  rw[e];simp only[yV,Pw,b,g,if_true,fX,List.headD_cons];rw[JE f (by simp[Pw,d])];simp[d]
theorem qq.hd(h:qq a p)(r:List Pd):Pw (p++r)=1:=by cases h<;>assumption
theorem qq.len(h:qq a p):0<p.length:=by cases h<;>simp
theorem IV(h:uy r=some (a,r2)):∃p,r=p++r2/\kT a p:=by
 unfold uy at h;split at h
 ·rename_i f;obtain⟨n,t,rfl,e⟩:=lT (by decide) f;obtain⟨⟨j,i⟩,g,d⟩:=vr.1 h;simp at d;obtain⟨rfl,rfl⟩:=d;obtain⟨p,b,c⟩:=ek g;simp only[fX] at b;subst b;exact⟨n::p,rfl,.neg e c⟩
 ·obtain⟨p,b,c⟩:=ek h;exact⟨p,b,.qc c⟩
theorem A0(h:kT a p)(c:Pw r2≠4):uy (p++r2)=some (a,r2):=by
 cases h with
 |qc b=>unfold uy;rw[b.hd,tR b c];rfl
 |neg d b=>simp only[uy,f5,Pw,d,if_true,fX];rw[tR b c];rfl
theorem kT.len{a:zj}{p:List Pd}(h:kT a p):0<p.length:=by cases h with
 |qc h=>exact h.len
 |neg _ h=>simp
theorem KY:∀{n:Nat} {r r2:List Pd} {b:List zj},xM n r=some (b,r2)->∃p,r=p++r2/\gu b p:=by
 intro n;induction n with
 |zero=>intro r r2 b h;simp[xM] at h
 |succ n l=>
  intro r r2 b h;cases d:uy r with
  |none=>rw[pu d] at h;exact zC h (by simp)
  |some z=>
   obtain⟨a,k⟩:=z;obtain⟨p,rfl,f⟩:=IV d;by_cases e:Pw k=6
   ·rw[pe d e] at h;obtain⟨⟨u,s⟩,m,g⟩:=vr.1 h;simp at g;obtain⟨rfl,rfl⟩:=g;obtain⟨c,t,rfl,o⟩:=lT (by decide) e;obtain⟨q,i,j⟩:=l m;simp only[fX] at i;subst i;exact⟨p++c::q,by simp,.more f o j⟩
   ·rw[pf d e] at h;simp at h;obtain⟨rfl,rfl⟩:=h;exact⟨p,rfl,.one f⟩
theorem IW{b:List zj}(h:gu b p)(i:Pw r2≠4)(k:Pw r2≠6):∀n,p.length<=n->xM n (p++r2)=some (b,r2):=by
 induction h with
 |one d=>
  intro n f;have:=d.len;obtain⟨m,rfl⟩:∃m,n=m+1:=⟨n-1,by omega⟩;rw[pf (A0 d i) k]
 |more d g _ j=>
  rename_i a p q c b _;intro n f;simp only[yz,yZ] at f;obtain⟨m,rfl⟩:∃m,n=m+1:=⟨n-1,by omega⟩;have e:(p++c::q)++r2=p++(c::(q++r2)):=by simp
  have l:=A0 d (r2:=c::(q++r2)) (by simp[Pw,g]);rw[e,pe l g,fX,j m (by omega)];rfl
theorem Fh{n:Nat}{c:zc}(h:uR n r=some (c,r2)):∃p d,r=p++d::r2/\d.1=7/\dA c p:=by
 unfold uR at h;split at h
 ·exact zC h (by simp)
 ·rename_i a s j;obtain⟨p,rfl,k⟩:=ek j;split at h
  ·rename_i o;obtain⟨i,t,rfl,m⟩:=lT (by decide) o;split at h
   ·exact zC h (by simp)
   ·rename_i b u f;obtain⟨q,rfl,l⟩:=KY f;split at h
    ·rename_i e;obtain⟨d,t,rfl,g⟩:=lT (by decide) e;simp at h;obtain⟨rfl,rfl⟩:=h;exact⟨p++i::q,d,by simp,g,.rule k m l⟩
    ·exact zC h (by simp)
  ·split at h
   ·rename_i e;obtain⟨d,t,rfl,g⟩:=lT (by decide) e;simp at h;obtain⟨rfl,rfl⟩:=h;exact⟨p,d,rfl,g,.fact k⟩
   ·exact zC h (by simp)
theorem FX{c:zc}(h:dA c p){d:Pd}(f:d.1=7)(r2:List Pd)(n:Nat)(l:p.length<=n):uR n (p++d::r2)=some (c,r2):=by
 cases h with
 |fact g=>
  unfold uR;rw[tR g (by simp[Pw,f])];simp[Pw,f]
 |rule g j k=>
  rename_i a b p q i;simp only[yz,yZ] at l;have e:(p++i::q)++d::r2=p++(i::(q++d::r2)):=by simp
  unfold uR;rw[e,tR g (by simp[Pw,j])];simp only[Pw,j,if_true,fX];rw[IW k (by simp[Pw,f]) (by simp[Pw,f]) n (by omega)];simp[f]
theorem dA.len{c:zc}{p:List Pd}(h:dA c p):0<p.length:=by cases h with
 |fact h=>exact h.len
 |rule h=>simp;omega
theorem Mh{n:Nat}:∀(m:Nat) {r:List Pd} {cs:List zc},yH n m r=some cs->dK cs r:=by
 intro m;induction m with
 |zero=>
  intro r cs h;cases r with
  |nil=>simp[yH] at h;subst h;exact .nil
  |cons x r=>simp[yH] at h
 |succ m c=>
  intro r cs h;cases r with
  |nil=>simp[yH] at h;subst h;exact .nil
  |cons x r=>
   cases b:uR n (x::r) with
   |none=>rw[rY (by simp) b] at h;exact zC h (by simp)
   |some z=>
    rw[po (by simp) b] at h;obtain⟨i,g,rfl⟩:=vr.1 h;obtain⟨p,d,e,f,j⟩:=Fh b;rw[e];exact .cons j f (c g)
theorem M1{n:Nat}{cs:List zc}(h:dK cs r):∀m,r.length<=m->r.length<=n->yH n m r=some cs:=by
 induction h with
 |nil=>intro m _ _;cases m<;>rfl
 |cons b e _ d=>
  intro m f c;have:=b.len;simp only[yz,yZ] at f c;obtain⟨k,rfl⟩:∃k,m=k+1:=⟨m-1,by omega⟩;rw[po (by simp) (FX b e _ n (by omega)),d k (by omega) (by omega)];rfl
theorem K3(l:List Pd)(cs:List zc):yH l.length l.length l=some cs↔dK cs l:=
 ⟨Mh _,fun h=>M1 h _ (zh _) (zh _)⟩
end
section
variable {p:List Pd}
def xV(l:List Pd):Prop:=∀x∈l,fh x
def zQ(l:List Pd):List ByteArray:=l.map Prod.snd
def tk(l:List Pd)(i:Nat):Pd:=l.getD i (0,ByteArray.empty)
theorem Mz:fh (0,ByteArray.empty):=by constructor<;>first|rfl|(show _=(ByteArray.empty.toList == _);rw[lx];rfl)
theorem xV.tk{l:List Pd}(h:xV l)(i:Nat):fh (tk l i):=by
 unfold Go.Proofs.YteampbddflhngaaGreat.tk;by_cases a:i<l.length
 ·rw[gV,yq a];exact h _ (zu a)
 ·rw[gV,kR (by omega)];exact Mz
theorem gR(l:List Pd)(i:Nat):gB (zQ l) i=(tk l i).2:=by
 unfold gB zQ tk;by_cases a:i<l.length
 ·simp[List.getD_eq_getElem?_getD,a]
 ·simp[List.getD_eq_getElem?_getD,a]
theorem ke(l:List Pd):(zQ l).length=l.length:=by simp[zQ]
theorem xV.take{l:List Pd}(h:xV l)(n:Nat):xV (l.take n):=fun x a=>h x (fD a)
theorem xV.drop{l:List Pd}(h:xV l)(n:Nat):xV (l.drop n):=fun x a=>h x (g4 a)
theorem qE{k c:Int}{b:Bool}(h:(k == c)=b):b=true↔k=c:=by subst h;simp
def PL{α:Type}:List α->List α
 |[]=>[]
 |[x]=>[x]
 |x::_::r=>x::PL r
theorem Ab{α:Type}(y:α):∀x:List α,PL (x++[y])=PL x++(if x.length%2=0 then [y] else [])
 |[]=>rfl
 |[a]=>rfl
 |a::b::r=>by
  have:=Ab y r;have c:(a::b::r).length%2=r.length%2:=by simp only[yZ];omega
  rw[c];simp only[f5,PL,this]
theorem CP(l:List ByteArray):∀m,m<=l.length->uz l m=PL ((l.drop 2).take (m-2))
 |0,_=>by simp[uz,PL]
 |m+1,h=>by
  rw[uz,CP l m (by omega)];by_cases a:2<=m
  ·have e:(l.drop 2).take (m+1-2)=(l.drop 2).take (m-2)++[gB l m]:=by
    rw[show m+1-2=(m-2)+1 by omega,List.take_add_one];congr 1;rw[List.getElem?_drop,show 2+(m-2)=m by omega,yq (by omega),xt (by omega)];rfl
   rw[e,Ab];congr 1;have b:((l.drop 2).take (m-2)).length=m-2:=by simp;omega
   rw[b];simp only[a,true_and];rw[show(m-2)%2=m%2 by omega]
  ·rw[show m+1-2=0 by omega,show m-2=0 by omega];simp[PL,a]
theorem oD(l:List ByteArray):∀m,vN l m=true↔∀i,2<=i->i<m->QF l i=true
 |0=>by simp[vN]
 |m+1=>by
  have d:=oD l m;simp only[vN,uZ,dN,decide_eq_true_eq,d];constructor
  ·rintro⟨e,a⟩ i b f;by_cases c:i=m
   ·subst c;rcases a with a|a
    ·omega
    ·exact a
   ·exact e i b (by omega)
  ·intro h;refine⟨fun i b f=>h i b (by omega),?_⟩;by_cases a:m<2
   ·exact zf a
   ·exact ze (h m (by omega) (by omega))
def Rb(q:List Pd):Prop:=q.length%2=1/\∀i,i<q.length->if i%2=0 then PY (tk q i).1=true else(tk q i).1=6
theorem g7(x:Pd)(l:List Pd)(i:Nat):tk (x::l) (i+1)=tk l i:=by simp[tk]
theorem dD(x:Pd)(l:List Pd):tk (x::l) 0=x:=by simp[tk]
theorem GY{ts:List ByteArray}{q:List Pd}(h:dB ts q):Rb q/\ts=PL (zQ q):=by
 induction h with
 |one b=>exact⟨⟨rfl,fun i a=>by simp at a;subst a;simpa [dD] using b⟩,rfl⟩
 |more b e _ d=>
  obtain⟨⟨g,c⟩,f⟩:=d;refine⟨⟨by simp only[yZ];omega,fun i a=>?_⟩,by rw[f];rfl⟩;match i with
  |0=>simpa [dD] using b
  |1=>simpa [g7,dD] using e
  |i+2=>
   have:=c i (by simp only[yZ] at a;omega);rw[g7,g7,show(i+2)%2=i%2 by omega];exact this
theorem E6:∀(q:List Pd),Rb q->dB (PL (zQ q)) q
 |[],h=>by have:=h.1;simp at this
 |[x],h=>by have:=h.2 0 (by simp);simp[dD] at this;exact .one this
 |x::y::r,h=>by
  have a:=h.2 0 (by simp);have b:=h.2 1 (by simp);simp[dD] at a;simp[g7,dD] at b;refine .more a b (E6 r ⟨by have:=h.1;simp only[yZ] at this;omega,fun i c=>?_⟩);have:=h.2 (i+2) (by simp only[yZ];omega);rw[g7,g7,show(i+2)%2=i%2 by omega] at this;exact this
theorem Ny{r:List Pd}{i:Nat}(h:i<p.length):tk (p++r) i=tk p i:=by
 simp[tk,List.getD_eq_getElem?_getD,List.getElem?_append_left h]
theorem Hg{r:List Pd}{c:Pd}:tk (p++c::r) p.length=c:=by simp[tk,List.getD_eq_getElem?_getD]
theorem LZ{neg:Bool}{n o c:Pd}{q:List Pd}(h:xV (n::o::(q++[c])))(a:zj):
  xf neg (zQ (n::o::(q++[c])))=some a↔n.1=1/\o.1=4/\c.1=5/\Rb q/\a=⟨neg,n.2,PL (zQ q)⟩:=by
 have s:=qE (h n (by simp)).n;have r:=qE (h o (by simp)).k4;have u:=qE (h c (by simp)).k5;have A:gB (zQ (n::o::(q++[c]))) 0=n.2:=by rw[gR,dD]
 have z:gB (zQ (n::o::(q++[c]))) 1=o.2:=by rw[gR,g7,dD]
 have C:(zQ (n::o::(q++[c]))).length=q.length+3:=by rw[ke];simp
 have D:gB (zQ (n::o::(q++[c]))) (q.length+2)=c.2:=by rw[gR,g7,g7,Hg]
 have m:vN (zQ (n::o::(q++[c]))) (q.length+2)=true↔∀i,i<q.length->if i%2=0 then PY (tk q i).1=true else(tk q i).1=6:=by
  have f:∀i,i<q.length->(QF (zQ (n::o::(q++[c]))) (i+2)=true↔if i%2=0 then PY (tk q i).1=true else(tk q i).1=6):=by
   intro i k;have v:fh (tk q i):=xV.tk (fun x y=>h x (by simp[y])) i;unfold QF;rw[gR,g7,g7,Ny k,show(i+2)%2=i%2 by omega];split
   ·rw[v.t]
   ·exact qE v.k6
  rw[oD];constructor
  ·intro l i k;exact(f i k).1 (l (i+2) (by omega) (by omega))
  ·intro l i F k;have:=(f (i-2) (by omega)).2 (l (i-2) (by omega));rwa [show i-2+2=i by omega] at this
 have b:uz (zQ (n::o::(q++[c]))) (q.length+2)=PL (zQ q):=by
  rw[CP _ _ (by omega)];simp[zQ]
 unfold xf;rw[C,A,z,show q.length+3-1=q.length+2 by omega,D,b];rw[za (by omega)];by_cases j:n.1=1
 ·rw[za (by rw[s.2 j];simp),za (by omega)];by_cases d:q.length+3<4∨(q.length+3)%2=1∨(o.2.toList == [40])=false∨(c.2.toList == [41])=false
  ·rw[zb d];simp only[reduceCtorEq,false_iff];rintro⟨-,B,w,E,-⟩;rw[r.2 B,u.2 w] at d;have:=E.1;simp at d;omega
  ·rw[za d];simp only[not_or,pB] at d;have t:Rb q↔vN (zQ (n::o::(q++[c]))) (q.length+2)=true:=by
    rw[m];exact⟨fun h=>h.2,fun h=>⟨by omega,h⟩⟩
   by_cases g:vN (zQ (n::o::(q++[c]))) (q.length+2)=true
   ·rw[zb g];simp only[zs];exact⟨fun e=>⟨j,r.1 d.2.2.1,u.1 d.2.2.2,t.2 g,e.symm⟩,fun e=>e.2.2.2.2.symm⟩
   ·rw[za g];simp only[reduceCtorEq,false_iff];exact fun e=>g (t.1 e.2.2.2.1)
 ·have:yQ (Pi n.2 0)=false:=by rw[←nE];exact fun e=>j (s.1 e)
  rw[zb this];simp only[reduceCtorEq,false_iff];exact fun e=>j e.1
theorem tE{neg:Bool}(h:xV p)(a:zj):xf neg (zQ p)=some a↔∃f,qq f p/\a={f with neg:=neg}:=by
 match p,h with
 |[],_=>
  simp only[xf,zQ,List.map_nil,jH,if_true,reduceCtorEq,false_iff];rintro⟨f,b,-⟩;cases b
 |[n],h=>
  have s:=qE (h n (by simp)).n;have t:gB (zQ [n]) 0=n.2:=by rw[gR,dD]
  unfold xf;rw[ke,t];constructor
  ·intro e;cases l:yQ (Pi n.2 0) with
   |false=>simp[l] at e
   |true=>simp[l] at e;exact⟨_,.bare (s.1 l),e.symm⟩
  ·rintro⟨f,b,rfl⟩;cases b with
   |bare m=>simp[s.2 m]
 |n::o::r,h=>
  rcases rR r with rfl|⟨q,c,rfl⟩
  ·constructor
   ·intro e;unfold xf at e;rw[ke] at e;simp at e
   ·rintro⟨f,b,rfl⟩;generalize d:[n,o]=p at b;cases b with
    |bare=>simp at d
    |args=>simp at d
  ·rw[sm] at h ⊢;rw[LZ h];constructor
   ·rintro⟨k,j,g,i,rfl⟩;exact⟨_,.args k j (E6 q i) g,rfl⟩
   ·rintro⟨f,b,rfl⟩;generalize d:n::o::(q++[c])=p at b;cases b with
    |bare=>simp at d
    |args k j u g=>
     simp only[lF] at d;obtain⟨rfl,rfl,d⟩:=d;have:=nM d rfl;simp only[lF,and_true] at this;obtain⟨rfl,rfl⟩:=this;obtain⟨i,rfl⟩:=GY u;exact⟨k,j,g,i,rfl⟩
theorem qq.qc{a:zj}(h:qq a p):{a with neg:=false}=a:=by cases h<;>rfl
theorem og(h:xV p)(a:zj):jp (zQ p) true=some a↔qq a p:=by
 have c:PK (zQ p) true=false:=by simp[PK]
 unfold jp;rw[c,za (by simp),tE h];exact⟨fun⟨d,b,e⟩=>by rw[e,b.qc];exact b,fun b=>⟨a,b,b.qc.symm⟩⟩
theorem rJ(h:xV p)(a:zj):jp (zQ p) false=some a↔kT a p:=by
 cases p with
 |nil=>
  have l:PK (zQ []) false=false:=rfl;unfold jp;rw[l,za (by simp),tE h];constructor
  ·rintro⟨j,b,-⟩;cases b
  ·intro c;cases c with
   |qc b=>cases b
 |cons n r=>
  have f:=qE (h n (by simp)).k8;have g:PK (zQ (n::r)) false=(n.2.toList == [33]):=by
   unfold PK;rw[gR,dD,ke];simp
  unfold jp;rw[g];cases i:(n.2.toList == [33]) with
  |true=>
   have d:=f.1 i;rw[zb rfl,show(zQ (n::r)).tail=zQ r from rfl,tE (show xV r from fun x k=>h x (by simp[k]))];constructor
   ·rintro⟨j,b,rfl⟩;exact .neg d b
   ·intro c;cases c with
    |qc b=>have:=b.hd [];simp[Pw,d] at this
    |neg _ b=>exact⟨_,b,rfl⟩
  |false=>
   have d:n.1≠8:=fun e=>by rw[f.2 e] at i;exact zC i (by simp)
   rw[za (by simp),tE h];constructor
   ·rintro⟨j,b,rfl⟩;rw[b.qc];exact .qc b
   ·intro c;cases c with
    |qc b=>exact⟨_,b,b.qc.symm⟩
    |neg f _=>exact zC f d
end
section
variable {l r p:List Pd}
theorem iG{f i:Nat}(b:f<=i)(a:i<l.length):l.drop f=(l.drop f).take (i-f)++l[i]::l.drop (i+1):=by
 have e:(l.drop f).drop (i-f)=l[i]::l.drop (i+1):=by
  rw[List.drop_drop,show f+(i-f)=i by omega,xg a]
 rw[←e,qO]
theorem nV(l:List Pd)(f k:Nat):((zQ l).drop f).take k=zQ ((l.drop f).take k):=by simp[zQ,List.map_take,List.map_drop]
theorem pC{i:Nat}(h:i<l.length):tk l i=l[i]:=by simp[tk,List.getD_eq_getElem?_getD,h]
theorem tH{i:Nat}{x:Pd}(h:l.drop i=x::r):tk l i=x/\i<l.length/\l.drop (i+1)=r:=by
 have a:i<l.length:=by
  false_or_by_contra;rename_i b
  rw[ui (by omega)] at h;exact zC h (by simp)
 rw[xg a] at h;simp only[lF] at h;exact⟨by rw[pC a];exact h.1,a,h.2⟩
theorem JR(h:xV l):∀(n f i:Nat) (d:Int) (b:List zj),f<=i->i+n=l.length+1->yD (zQ l) n f d i=some b->gu b (l.drop f)∨(n=0/\b=[]):=by
 intro n;induction n with
 |zero=>intro f i d b _ _ e;simp[yD] at e;exact ze ⟨rfl,e⟩
 |succ n u=>
  intro f i d b x y e;left;have step:∀{j o k},j<=i+1->i<l.length->yD (zQ l) n j o (i+1)=some k->gu k (l.drop j):=by
   intro j o k v z w;rcases u j (i+1) o k v (by omega) w with m|⟨rfl,-⟩
   ·exact m
   ·omega
  unfold yD at e;rw[ke] at e;by_cases c:i<l.length
  ·rw[zb c] at e;split at e
   ·exact step (by omega) c e
   ·split at e
    ·exact step (by omega) c e
    ·split at e
     ·exact step (by omega) c e
     ·rename_i q;split at e
      ·exact zC e (by simp)
      ·rename_i a g;rw[nV,rJ ((h.drop f).take _)] at g;obtain⟨k,t,rfl⟩:=vr.1 e;have m:=step (zh _) c t;rw[iG x c];refine .more g ?_ m;have s:=qE (h.tk i).k6;rw[pC c] at s;apply s.1;simp only[not_or,pB] at q;have:=q.1;rwa [gR,pC c] at this
  ·rw[za c] at e;split at e
   ·exact zC e (by simp)
   ·rename_i a g;rw[nV,rJ ((h.drop f).take _)] at g;simp only[zs] at e;subst e;have:(l.drop f).take (i-f)=l.drop f:=xk (by simp;omega);rw[this] at g;exact .one g
def dep:Int->List Pd->Option Int
 |d,[]=>some d
 |d,x::r=>if x.1=4 then dep (d+1) r else if x.1=5 then dep (d-1) r else if x.1≠6∨0<d then dep d r else none
theorem rI:∀(p q:List Pd) (d:Int),dep d (p++q)=(dep d p).bind fun a=>dep a q
 |[],q,d=>rfl
 |x::p,q,d=>by
  simp only[f5,dep];split
  ·exact rI p q _
  ·split
   ·exact rI p q _
   ·split
    ·exact rI p q _
    ·rfl
theorem GW{ts:List ByteArray}(h:dB ts p){d:Int}(e:0<d):dep d p=some d:=by
 have b:∀{x:Pd},PY x.1=true->x.1≠4/\x.1≠5/\x.1≠6:=by
  intro x a;simp[PY] at a;omega
 induction h with
 |one a=>have:=b a;simp[dep,this]
 |more a f _ c=>have:=b a;simp[dep,this,f,e,c]
theorem CX{a:zj}(h:qq a p):dep 0 p=some 0:=by
 cases h with
 |bare b=>simp[dep,b]
 |args b e f c=>
  simp only[dep,b,e];simp only[rI,GW f (d:=0+1) (by omega)];simp[dep,c]
theorem Ee{a:zj}(h:kT a p):dep 0 p=some 0:=by
 cases h with
 |qc b=>exact CX b
 |neg c b=>simp[dep,c,CX b]
theorem ia{l:List Pd}(h:xV l)(f:Nat):∀(p r:List Pd) (d g:Int) (i n:Nat),l.drop i=p++r->dep d p=some g->yD (zQ l) (n+p.length) f d i=yD (zQ l) n f g (i+p.length)
 |[],r,d,g,i,n,_,a=>by simp[dep] at a;subst a;rfl
 |x::p,r,d,g,i,n,y,a=>by
  obtain⟨s,w,u⟩:=tH y;have k:=h.tk i;rw[s] at k;have q:=qE k.k4;have o:=qE k.k5;have t:=qE k.k6;have c:=fun v=>ia h f p r v g (i+1) n u;rw[show n+(x::p).length=(n+p.length)+1 by simp only[yZ];omega,show i+(x::p).length=i+1+p.length by simp only[yZ];omega];rw[yD,ke,zb w,gR,s];unfold dep at a;by_cases m:x.1=4
  ·rw[zb (q.2 m)];rw[zb m] at a;exact c _ a
  ·rw[za (fun e=>m (q.1 e))];rw[za m] at a;by_cases j:x.1=5
   ·rw[zb (o.2 j)];rw[zb j] at a;exact c _ a
   ·rw[za (fun e=>j (o.1 e))];rw[za j] at a;by_cases b:x.1≠6∨0<d
    ·rw[zb b] at a;rw[zb (by
      rcases b with b|b
      ·left;rw[←nE];exact fun e=>b (t.1 e)
      ·exact ze b)]
     exact c _ a
    ·rw[za b] at a;exact zC a (by simp)
theorem Qb{f:Nat}(a:l.drop f=p++r):(l.drop f).take (f+p.length-f)=p:=by
 rw[a,show f+p.length-f=p.length by omega];simp
theorem wm{f:Nat}(a:l.drop f=p++r):l.drop (f+p.length)=r:=by
 rw[←List.drop_drop,a];simp
theorem Kv(h:xV l){b:List zj}(o:gu b p):∀f,l.drop f=p->yD (zQ l) (p.length+1) f 0 f=some b:=by
 induction o with
 |one j=>
  rename_i a p;intro f g;have d:l.drop f=p++[]:=by simpa using g
  rw[show p.length+1=1+p.length by omega,ia h f p [] 0 0 f 1 d (Ee j),yD,ke];have m:=wm d;rw[List.drop_eq_nil_iff] at m;rw[za (by omega),nV,Qb d,(rJ (by rw[←g];exact h.drop f) a).2 j]
 |more j A _ z=>
  rename_i a p q c b _;intro f g;have u:xV p:=fun x v=>h x (g4 (i:=f) (by rw[g];simp[v]));have m:=wm g;obtain⟨n,B,y⟩:=tH m;have k:=h.tk (f+p.length);rw[n] at k;have w:=qE k.k4;have s:=qE k.k5;have t:=qE k.k6;rw[show(p++c::q).length+1=(q.length+1+1)+p.length by simp;omega,ia h f p (c::q) 0 0 f _ g (Ee j),yD,ke,zb B,gR,n,
   za (fun e=>by have:=w.1 e;omega),za (fun e=>by have:=s.1 e;omega),za (by rw[t.2 A];simp),nV,Qb g,(rJ u a).2 j]
  simp only;rw[z (f+p.length+1) y];rfl
theorem BL(h:xV l)(b:List zj):yD (zQ l) ((zQ l).length+1) 0 0 0=some b↔gu b l:=by
 rw[ke];constructor
 ·intro e;rcases JR h _ 0 0 0 b (zh _) (by omega) e with a|⟨c,-⟩
  ·simpa using a
  ·omega
 ·intro a;exact Kv h a 0 (by simp)
end
section
variable {k:Int}{p l:List Pd}
def No(k:Int)(l:List Pd):Prop:=∀x∈l,x.1≠k
theorem No.app{q:List Pd}(h:No k p)(g:No k q):No k (p++q):=fun x a=>(zW.1 a).elim (h x) (g x)
theorem No.cons{x:Pd}{q:List Pd}(h:x.1≠k)(g:No k q):No k (x::q):=fun y a=>by
 rcases zw.1 a with rfl|a
 ·exact h
 ·exact g y a
theorem No.nil(k:Int):No k []:=fun x a=>zC a (by simp)
theorem K0{ts:List ByteArray}(h:dB ts p)(e:6<k):No k p:=by
 have b:∀{x:Pd},PY x.1=true->x.1≠k:=by intro x a;simp[PY] at a;omega
 induction h with
 |one a=>exact .cons (b a) (.nil k)
 |more a d _ c=>exact .cons (b a) (.cons (by omega) c)
theorem pc{a:zj}(h:qq a p)(d:6<k):No k p:=by
 cases h with
 |bare b=>exact .cons (by omega) (.nil k)
 |args b e c f=>exact .cons (by omega) (.cons (by omega) (.app (K0 c d) (.cons (by omega) (.nil k))))
theorem BU{a:zj}(h:kT a p)(c:k=7∨k=9):No k p:=by
 cases h with
 |qc b=>exact pc b (by omega)
 |neg d b=>exact .cons (by omega) (pc b (by omega))
theorem Jd{b:List zj}(h:gu b p)(c:k=7∨k=9):No k p:=by
 induction h with
 |one a=>exact BU a c
 |more a e _ d=>exact .app (BU a c) (.cons (by omega) d)
theorem Lf{c:zc}(h:dA c p):No 7 p:=by
 cases h with
 |fact a=>exact pc a (by omega)
 |rule a d b=>exact .app (pc a (by omega)) (.cons (by omega) (Jd b (zf rfl)))
theorem eW:∀(p r:List Pd),xV p->No 9 p->xH (zQ (p++r))=p.length+xH (zQ r)
 |[],r,_,_=>by simp
 |x::p,r,h,b=>by
  have c:=qE (h x (by simp)).k9;have d:(x.2.toList == [58,45])=false:=by rw[←nE];exact fun e=>b x (by simp) (c.1 e)
  show xH (x.2::zQ (p++r))=_;rw[xH,d,eW p r (fun y a=>h y (by simp[a])) (fun y a=>b y (by simp[a]))];simp only[yZ];rw[za (by simp)];omega
theorem CZ:∀(l:List Pd),xV l->xH (zQ l)<l.length->(tk l (xH (zQ l))).1=9
 |[],_,h=>by simp at h
 |x::l,a,h=>by
  have d:=qE (a x (by simp)).k9;change xH (x.2::zQ l)<_ at h;show(tk (x::l) (xH (x.2::zQ l))).1=9;rw[xH] at h ⊢;cases b:(x.2.toList == [58,45]) with
  |true=>rw[zb rfl,dD];exact d.1 b
  |false=>
   rw[b,za (by simp)] at h;rw[za (by simp),g7];exact CZ l (fun y c=>a y (by simp[c])) (by simp only[yZ] at h;omega)
theorem Au(l:List Pd)(k:Nat):(zQ l).take k=zQ (l.take k):=by simp[zQ,List.map_take]
theorem Ec(l:List Pd)(k:Nat):(zQ l).drop k=zQ (l.drop k):=by simp[zQ,List.map_drop]
theorem CH(h:xV l)(c:zc):jD (zQ l)=some c↔dA c l:=by
 constructor
 ·intro e;have r:=CU (zQ l);rw[ke] at r;unfold jD at e;rw[Au,Ec,ke] at e;split at e
  ·exact zC e (by simp)
  ·rename_i B m;rw[og (h.take _)] at m;split at e
   ·rename_i u;simp only[zs] at e;subst e;rw[u,xk (zh _)] at m;exact .fact m
   ·rename_i u;have d:xH (zQ l)<l.length:=by omega
    split at e
    ·exact zC e (by simp)
    ·rename_i b t;rw[BL (h.drop _)] at t;simp only[zs] at e;subst e;have g:=CZ l h d;rw[pC d] at g;have j:=iG (l:=l) (zv (xH (zQ l))) d;rw[gI,Nat.sub_zero] at j;have y:=dA.rule m g t;rwa [←j] at y
 ·intro A;unfold jD;rw[Au,Ec,ke];cases A with
  |fact f=>
   have n:xH (zQ l)=l.length:=by
    have:=eW l [] h (pc f (by omega));simpa [zQ,xH] using this
   rw[n,xk (zh _),(og h _).2 f];simp
  |rule f g w=>
   rename_i a b p q i;have s:xV p:=fun x o=>h x (by simp[o]);have z:xV q:=fun x o=>h x (by simp[o]);have n:xH (zQ (p++i::q))=p.length:=by
    rw[eW p (i::q) s (pc f (by omega))];show p.length+xH (i.2::zQ q)=_;rw[xH,(qE (h i (by simp)).k9).2 g];rfl
   rw[n];have v:(p++i::q).take p.length=p:=by simp
   have j:(p++i::q).drop (p.length+1)=q:=by rw[←List.drop_drop];simp
   rw[v,j,(og s _).2 f,(BL z _).2 w];simp only;rw[za (by simp)]
theorem MK(h:xV l):∀(n f i:Nat) (cs:List zc),f<=i->i+n=l.length->qb (zQ l) n f i=some cs->dK cs (l.drop f):=by
 intro n;induction n with
 |zero=>
  intro f i cs j o e;unfold qb at e;rw[ke] at e;split at e
  ·rename_i s;simp only[zs] at e;subst e;rw[ui (by omega)];exact .nil
  ·exact zC e (by simp)
 |succ n d=>
  intro f i cs j o e;have a:i<l.length:=by omega
  unfold qb at e;rw[gR,pC a] at e;split at e
  ·rename_i m;have r:=(qE (h l[i] (zu a)).k7).1 m;split at e
   ·exact zC e (by simp)
   ·rename_i c g;rw[nV,CH ((h.drop f).take _)] at g;obtain⟨q,b,rfl⟩:=vr.1 e;rw[iG j a];exact .cons g r (d _ _ _ (zh _) (by omega) b)
  ·exact d _ _ _ (by omega) (by omega) e
theorem DK{l:List Pd}(h:xV l)(f:Nat):∀(p r:List Pd) (i n:Nat),l.drop i=p++r->No 7 p->qb (zQ l) (n+p.length) f i=qb (zQ l) n f (i+p.length)
 |[],r,i,n,_,_=>rfl
 |x::p,r,i,n,g,a=>by
  obtain⟨b,o,m⟩:=tH g;have c:=h.tk i;rw[b] at c;have j:=qE c.k7;rw[show n+(x::p).length=(n+p.length)+1 by simp only[yZ];omega,show i+(x::p).length=i+1+p.length by simp only[yZ];omega];rw[qb,gR,b,za (fun e=>a x (by simp) (j.1 e))];exact DK h f p r (i+1) n m (fun y d=>a y (by simp[d]))
theorem ET(h:xV l){cs:List zc}(t:dK cs p):∀f,f<=l.length->l.drop f=p->qb (zQ l) p.length f f=some cs:=by
 induction t with
 |nil=>
  intro f u a;rw[List.drop_eq_nil_iff] at a;rw[jH,qb,ke,zb (by omega)]
 |cons g r _ o=>
  rename_i c cs p q d _;intro f u a;have j:xV p:=fun x m=>h x (g4 (i:=f) (by rw[a];simp[m]));have s:=wm a;obtain⟨b,v,n⟩:=tH s;have e:=h.tk (f+p.length);rw[b] at e;rw[show(p++d::q).length=(q.length+1)+p.length by simp;omega,DK h f p (d::q) f _ a (Lf g),qb,gR,b,zb ((qE e.k7).2 r),nV,Qb a,(CH j c).2 g];simp only;rw[o (f+p.length+1) (by omega) n];rfl
theorem iV(h:xV l)(cs:List zc):uQ (zQ l)=some cs↔dK cs l:=by
 unfold uQ;rw[ke];constructor
 ·intro e;have:=MK h _ 0 0 cs (zh _) (by omega) e;simpa using this
 ·intro a;exact ET h a 0 (by omega) (by simp)
theorem Lk(h:xV l):uQ (zQ l)=yH l.length l.length l:=by
 apply Option.ext;intro a;show uQ (zQ l)=some a↔yH l.length l.length l=some a;rw[iV h,K3]
theorem ey(s:ByteArray):(xh s.size s).bind uQ=(Pl s).bind fun l=>yH l.length l.length l:=by
 rw[pQ];cases b:Pl s with
 |none=>rfl
 |some l=>exact Lk fun x a=>(pj b x a).1
end
end Go.Proofs.YteampbddflhngaaGreat
