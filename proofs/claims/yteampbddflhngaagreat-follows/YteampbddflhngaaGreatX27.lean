import Derived.Test.YteampbddflhngaaGreatX25
namespace Go.Proofs.YteampbddflhngaaGreat
set_option linter.all false
open Classical
section
variable {vs ns:List ByteArray}{pl:List Nat}{t:List zh}{cs:List zc}
def jI(ns:List ByteArray)(σ:ByteArray->Nat)(l:zj)(i:Nat):Nat:=match l.args[i]? with
 |none=>0
 |some y=>if zO y=true then σ y else(uj ns y).getD 0
def vL(ns:List ByteArray)(σ:ByteArray->Nat)(l:zj):zk:=[jI ns σ l 0,jI ns σ l 1,jI ns σ l 2]
theorem Bp(a:∀k,pl.getD k 0<5)(n:ByteArray):uu vs pl n<5:=by
 unfold uu;split
 ·omega
 ·split
  ·omega
  ·exact a _
theorem JD(t:List zh)(ns vs:List ByteArray)(f:∀k,pl.getD k 0<5)(l:zj)(y:List Nat)(i:Nat):Pz (zI t ns vs pl l) y i=jI ns (fun v=>y.getD (uu vs pl v) 0) l i:=by
 unfold Pz jI;by_cases h:i<l.args.length
 ·have a:i<(zI t ns vs pl l).qg.length:=by simp[zI,ub];exact h
  rw[zb a,yr h,P5 _ a];have e:(zI t ns vs pl l).qg[i]=qR 0 (ub ns vs pl l) (uG ns vs pl l.args[i]):=by simp[zI,ub]
  obtain⟨d,c⟩:=nP 0 (ub ns vs pl l) (uG ns vs pl l.args[i]);rw[e];unfold QJ;rw[d,c];unfold uG;by_cases b:zO l.args[i]=true
  ·have:=Bp (vs:=vs) f l.args[i];simp[b,this]
  ·simp[b]
 ·have a:¬i<(zI t ns vs pl l).qg.length:=by simp[zI,ub];omega
  rw[za a,kp (by omega)]
theorem r5(t:List zh)(ns vs:List ByteArray)(a:∀k,pl.getD k 0<5)(l:zj)(y:List Nat):zF (zI t ns vs pl l) y=vL ns (fun v=>y.getD (uu vs pl v) 0) l:=by
 simp only[zF,vL,JD t ns vs a]
theorem Ib{σ τ:ByteArray->Nat}{l:zj}(h:∀y∈l.args,zO y=true->σ y=τ y):vL ns σ l=vL ns τ l:=by
 have:∀i,jI ns σ l i=jI ns τ l i:=by
  intro i;unfold jI;cases c:l.args[i]? with
  |none=>rfl
  |some y=>
   have b:=fe c;by_cases a:zO y=true
   ·simp only[a,if_true];exact h y b a
   ·simp[a]
 simp only[vL,this]
def tt(t:List zh)(ns:List ByteArray)(c:zc)(D:DB)(x:zk):Prop:=∃σ,(∀l∈c.body,l.neg=false->P9 D (zM t l.pred) (vL ns σ l))/\(∀l∈c.body,l.neg=true->D (zM t l.pred) (vL ns σ l)=none)/\x=vL ns σ c.head
theorem GD{k:Nat}{f:Nat->Nat}(h:∀p,p<k->∃i,i<k/\f i=p){i j:Nat}(m:i<k)(g:j<k)(e:f i=f j):i=j:=by
 by_cases b:i=j
 ·exact b
 ·have:=pf (l1:=List.range k) (l2:=((List.range k).erase j).map f) List.nodup_range (fun p n=>by
   obtain⟨a,l,d⟩:=h p (gh.1 n);by_cases c:a=j
   ·exact z9.2 ⟨i,(mS b).2 (gh.2 m),by rw[e,←c,d]⟩
   ·exact z9.2 ⟨a,(mS c).2 (gh.2 l),d⟩)
  rw[uJ,nQ (gh.2 g),List.length_range] at this;omega
theorem IW(m:vs.length<=5)(l:gV pl vs.length){u v:ByteArray}(k:u∈vs)(g:v∈vs)(e:uu vs pl u=uu vs pl v):u=v:=by
 obtain⟨i,h,d⟩:=sX k;obtain⟨j,f,c⟩:=sX g;unfold uu at e;rw[d,c] at e;simp only at e;rw[za (by omega),za (by omega)] at e;have:=GD l.onto h f e;subst this;obtain⟨_,a⟩:=f6 d;obtain⟨_,b⟩:=f6 c;rw[←a,←b]
theorem Dx{c:zc}{o:Option (List Int)}{D:DB}{x:zk}(C:∀l∈zl c,∀y∈l.args,zO y=true->y∈z7 c)(E:(z7 c).length<=5)(e:gV (yQ (o.getD [])) (z7 c).length):Rf (uY t ns c o) D x↔tt t ns c D x:=by
 constructor
 ·rintro⟨y,w,n,j⟩;refine⟨fun v=>y.getD (uu (z7 c) (yQ (o.getD [])) v) 0,fun l b r=>?_,fun l b r=>?_,?_⟩
  ·have:=w (zI t ns (z7 c) (yQ (o.getD [])) l) (z9.2 ⟨l,xX.2 ⟨b,by simp[r]⟩,rfl⟩);rw[r5 t ns _ e.five] at this;exact this
  ·have:=n (zI t ns (z7 c) (yQ (o.getD [])) l) (z9.2 ⟨l,xX.2 ⟨b,by simp[r]⟩,rfl⟩);rw[r5 t ns _ e.five] at this;exact this
  ·rw[j];exact r5 t ns _ e.five _ _
 ·rintro⟨σ,w,n,j⟩;let h:Nat->Nat:=fun p=>if d:∃v,v∈z7 c/\uu (z7 c) (yQ (o.getD [])) v=p then σ d.choose else 0
  have s:∀v∈z7 c,h (uu (z7 c) (yQ (o.getD [])) v)=σ v:=by
   intro v g;have d:∃u,u∈z7 c/\uu (z7 c) (yQ (o.getD [])) u=uu (z7 c) (yQ (o.getD [])) v:=⟨v,g,rfl⟩;show(if d:∃u,u∈z7 c/\uu (z7 c) (yQ (o.getD [])) u=uu (z7 c) (yQ (o.getD [])) v then σ d.choose else 0)=σ v;rw[dif_pos d,IW E e d.choose_spec.1 g d.choose_spec.2]
  have B:∀p,p<5->((List.range 5).map h).getD p 0=h p:=by
   intro p k;rw[P5 _ (by simp;exact k)];simp
  have a:∀l∈zl c,zF (zI t ns (z7 c) (yQ (o.getD [])) l) ((List.range 5).map h)=vL ns σ l:=by
   intro l b;rw[r5 t ns _ e.five];refine Ib fun y A i=>?_;rw[B _ (Bp e.five _),s y (C l b y A i)]
  refine⟨(List.range 5).map h,fun l b=>?_,fun l b=>?_,?_⟩
  ·obtain⟨z,m,rfl⟩:=z9.1 b;obtain⟨f,q⟩:=xX.1 m;rw[a z (by simp[zl,f])];exact w z f (by simpa using q)
  ·obtain⟨z,m,rfl⟩:=z9.1 b;obtain⟨f,q⟩:=xX.1 m;rw[a z (by simp[zl,f])];exact n z f (by simpa using q)
  ·rw[j];exact(a c.head (by simp[zl])).symm
theorem PI.covered{g:List zh}(h:PI cs g t){c:zc}(i:c∈cs):∀l∈zl c,∀y∈l.args,zO y=true->y∈z7 c:=by
 have e:=h.safe c i;simp only[xo,vq,lg,dX,Bool.not_eq_true'] at e;intro l a y b d;rcases zu.1 a with rfl|a
 ·exact mY.1 e.1 y b d
 ·cases f:l.neg with
  |false=>exact gI.2 ⟨d,l,a,f,b⟩
  |true=>
   rcases e.2 l a with q|q
   ·rw[f] at q;cases q
   ·exact mY.1 q y b d
def KF(t:List zh)(ns:List ByteArray)(cs:List zc)(s:Nat)(D:DB)(p:Nat)(x:zk):Prop:=∃c∈cs,0<c.body.length/\x6 t c.head.pred=s/\p=zM t c.head.pred/\tt t ns c D x
theorem tE{os:Option (List (Option (List Int)))}{r:zq}:r∈uZ t ns os cs↔∃i,∃b:i<cs.length,0<cs[i].body.length/\r=uY t ns cs[i] (uw os i):=by
 unfold uZ;rw[lN];constructor
 ·rintro⟨⟨c,i⟩,f,a⟩;have e:=rk.1 f;simp only at a e;obtain⟨b,rfl⟩:=jA.1 e;split at a
  ·rename_i d;simp only[zr] at a;exact⟨i,b,d,a.symm⟩
  ·cases a
 ·rintro⟨i,b,d,rfl⟩;refine⟨(cs[i],i),rk.2 (by simp[b]),?_⟩;simp only;rw[zb d]
theorem Md{l:List zh}(h:PI cs l t)(ns:List ByteArray)(os:Option (List (Option (List Int))))(g:∀i (b:i<cs.length),gV (yQ ((uw os i).getD [])) (z7 cs[i]).length)(s:Nat)(D:DB)(p:Nat)(x:zk):gT ((uZ t ns os cs).filter fun r=>decide (r.qh=s)) D p x↔KF t ns cs s D p x:=by
 constructor
 ·rintro⟨r,k,f,d⟩;obtain⟨n,j⟩:=xX.1 k;obtain⟨i,b,e,rfl⟩:=tE.1 n;have a:=zv b;exact⟨cs[i],a,e,of_decide_eq_true j,f,(Dx (h.covered a) (mi (h.many _ a)) (g i b)).1 d⟩
 ·rintro⟨c,a,e,f,d,m⟩;obtain⟨i,b,rfl⟩:=gE.1 a;exact⟨uY t ns cs[i] (uw os i),xX.2 ⟨tE.2 ⟨i,b,e,rfl⟩,decide_eq_true f⟩,d,(Dx (h.covered a) (mi (h.many _ a)) (g i b)).2 m⟩
end
end Go.Proofs.YteampbddflhngaaGreat
