import Derived.Test.YteampbddflhngaaGreatV15
import Derived.Test.YteampbddflhngaaGreatV43
namespace Go.Proofs.YteampbddflhngaaGreat
set_option linter.all false
section
open Classical
theorem FS{S:qU}(P:DB->Prop)(i:P (zzb S.facts))(g:∀s k D,P D->P (zyf (S.rules.filter fun r=>decide (r.qh=s)) k D)){mr mx:Nat}{D:DB}{k:Nat}(h:z0c S mr mx=some (D,k)):P D:=by
 have l:∀s (left k:Nat) (D a:DB) (b:Nat),P D->zxx (S.rules.filter fun r=>decide (r.qh=s)) mr left k D=some (a,b)->P a:=by
  intro s left;induction left with
  |zero=>intro k D a b _ h;cases h
  |succ left d=>
   intro k D a b c h;unfold zxx at h;split at h
   ·split at h
    ·simp only[zs,yo] at h;rw[←h.1];exact g s _ D c
    ·exact d (k+1) _ a b (g s _ D c) h
   ·cases h
 have m:∀(n s k:Nat) (D a:DB) (b:Nat),P D->zx8 S.rules mr mx n s k D=some (a,b)->P a:=by
  intro n;induction n with
  |zero=>
   intro s k D a b c h;unfold zx8 at h;simp only[zs,yo] at h;rw[←h.1];exact c
  |succ n d=>
   intro s k D a b c h;unfold zx8 at h;split at h
   ·exact d (s+1) k D a b c h
   ·split at h
    ·cases h
    ·rename_i f e j;exact d (s+1) e f a b (l s _ k D f e c j) h
 unfold z0c at h;split at h
 ·exact m _ 0 0 _ D k i h
 ·cases h
def sC(a:List Nat)(n:Nat)(D:DB):Prop:=∀p x,Pj D p x->∀i,i<a.getD p 0->x.getD i 0<n
theorem CL{cs:List zc}{c:zc}(n:c∈cs){l:zj}(m:l∈zm c)(t:List zg)(vs:List ByteArray)(e:List Nat):∀x∈(zK t (zp cs) vs e l).qg,x.var=false->x.num<(zp cs).length:=by
 intro x a b;unfold zK at a;simp only[zB] at a;obtain⟨z,f,rfl⟩:=a;unfold uc at f;obtain⟨y,h,rfl⟩:=zB.1 f;obtain⟨o,p⟩:=nH 0 (uc (zp cs) vs e l) (uD (zp cs) vs e y);obtain⟨g,k⟩:=gG cs;unfold uD at b ⊢;by_cases d:zV y=true
 ·rw[zb d] at b;cases b
 ·rw[za d];obtain⟨v,j,i⟩:=Aj g ((k y).2 ⟨c,n,l,m,h,by simpa using d⟩);rw[j];exact i
theorem Aw{l:zt}{a W n:Nat}(h:vM l a W)(c:∀x∈l.qg,x.var=false->x.num<n){y:List Nat}(f:∀p,zL l p=true->y.getD p 0<n):∀i,i<a->(zG l y).getD i 0<n:=by
 intro i g;have b:i<l.qg.length:=by rw[h.len];exact g
 rw[pS l y (by have:=h.le3;omega)];unfold Pa;rw[zb b,show l.qg.getD i ⟨false,0,0⟩=l.qg[i] by simp[List.getD,b]];have e:=zu b;unfold Qj;cases d:l.qg[i].var with
 |true=>
  rw[zb (by simp[(h.lev _ e d).1])];exact f _ ((fd l _).2 ⟨_,e,d,rfl⟩)
 |false=>
  rw[za (by simp)];exact c _ e d
theorem MY{cs:List zc}{V t:List zg}(h:Pt cs V t)(B:Option (List (Option (List Int))))(Y:∀i (w:i<cs.length),f8 (xb ((vA B i).getD [])) (zy cs[i]).length){mr mx:Nat}{D:DB}{k:Nat}(W:z0c (qF t (zp cs) B cs) mr mx=some (D,k)):sC (t.map (·.jf)) (zp cs).length D:=by
 have u:=sQ h (zp cs) B Y;refine FS (S:=qF t (zp cs) B cs) (fun D=>sC (t.map (·.jf)) (zp cs).length D) ?_ ?_ W
 ·intro p x g i w;unfold Pj zzb at g;split at g
  ·rename_i T;obtain⟨f,Q,rfl,rfl⟩:=T;have z:=Q;unfold vy at z;obtain⟨c,J,rfl⟩:=zB.1 z;have b:=(xY.1 J).1;have Z:c.body=[]:=by
    have:=(xY.1 J).2;simp at this;exact this
   obtain⟨e,_,_,q3,q4,_⟩:=h.lit b (l:=c.head) (by simp[zm]);have E:i<c.head.args.length:=by
    have a:i<(t.map (·.jf)).getD (zF t c.head.pred) 0:=w;rw[q4] at a;exact a
   have d:vM (zK t (zp cs) [] [0,0,0,0,0] c.head) c.head.args.length (yn (zp cs).length):=rH t _ [] _ c.head (fun k=>by
    by_cases hk:k<5
    ·have:k=0∨k=1∨k=2∨k=3∨k=4:=by omega
     rcases this with rfl|rfl|rfl|rfl|rfl<;>decide
    ·simp[List.getD,List.getElem?_eq_none (show([0,0,0,0,0]:List Nat).length<=k by simp;omega)]) (ni (h.many c b)).1
   refine Aw d (CL b (by simp[zm]) t [] _) (fun p o=>?_) i E;obtain⟨y,H,P,_⟩:=oi.1 o;have L:=h.safe c b;simp only[xe,uZ] at L;have:=mp.1 L.1 y H P;have v:zy c=[]:=by unfold zy;rw[Z];rfl
   rw[v] at this;cases this
  ·cases g
 ·intro s k D N p x g i w;unfold Pj zyf at g;cases q:D p x with
  |some m=>exact N p x (by unfold Pj;rw[q];rfl) i w
  |none=>
   rw[q] at g;simp only at g;split at g
   ·rename_i I;obtain⟨r,G,rfl,y,H,P,rfl⟩:=I;have n:=(xY.1 G).1;have d:=u.rules.rules r n;unfold uJ at n;obtain⟨⟨c,j⟩,U,C⟩:=lh.1 n;have X:=n8.1 U;have b:=gz X;split at C
    ·simp only[zs] at C;subst C;refine Aw d.head (CL b (by simp[zm]) t _ _) (fun p o=>?_) i w;obtain⟨l,M,R⟩:=d.fine.safe p (d.fine.head p o);obtain⟨tm,K,O,t3⟩:=(fd l p).1 R;obtain⟨F,a,rfl⟩:=vl K;obtain⟨w1,A⟩:=d.qc l M;have:=N l.pred (zG l y) (H l M) F (by have:=A.len;have q:=a;rw[this] at q;exact q);rw[pS l y (by have:=A.len;have:=A.le3;omega)] at this;unfold Pa at this;rw[zb a,show l.qg.getD F ⟨false,0,0⟩=l.qg[F] by simp[List.getD,a]] at this;unfold Qj at this;rw[zb (by simp[O,(A.lev _ K O).1]),t3] at this;exact this
    ·cases C
   ·cases g
theorem lM{ns:List ByteArray}(n:y5 ns){d:Nat}(o:d<=3){r:zk}(j:Pp d r)(k:∀i,i<d->r.getD i 0<ns.length):uq ns (x6 ns r d 3) 0 [0,0,0]=some r:=by
 obtain⟨x,y,z,rfl⟩:∃x y z,r=[x,y,z]:=by
  match r,j.1 with
  |[x,y,z],_=>exact⟨x,y,z,rfl⟩
 have e:=j.2;have f:=fun i (q:i<d)=>pW n (k i q);have m:d=0∨d=1∨d=2∨d=3:=by omega
 rcases m with rfl|rfl|rfl|rfl
 ·have a:=e 0 (by omega);have b:=e 1 (by omega);have c:=e 2 (by omega);simp at a b c;subst a;subst b;subst c;rfl
 ·have b:=e 1 (by omega);have c:=e 2 (by omega);simp at b c;subst b;subst c;have g:yT ns (ns[x]?.getD ByteArray.empty)=some x:=by have:=f 0 (by omega);simpa using this
  simp[x6,uq,g]
 ·have c:=e 2 (by omega);simp at c;subst c;have g:yT ns (ns[x]?.getD ByteArray.empty)=some x:=by have:=f 0 (by omega);simpa using this
  have h:yT ns (ns[y]?.getD ByteArray.empty)=some y:=by have:=f 1 (by omega);simpa using this
  simp[x6,uq,g,h,List.range_succ]
 ·have g:yT ns (ns[x]?.getD ByteArray.empty)=some x:=by have:=f 0 (by omega);simpa using this
  have h:yT ns (ns[y]?.getD ByteArray.empty)=some y:=by have:=f 1 (by omega);simpa using this
  have l:yT ns (ns[z]?.getD ByteArray.empty)=some z:=by have:=f 2 (by omega);simpa using this
  simp[x6,uq,g,h,l,List.range_succ]
end
section
open Go.RowKit
theorem lN(w:World)(m:Nat):Below w.heap.size w (w.drewN m):=zI (zo _ _) m
abbrev z7:=ByteArray×List ByteArray×Nat
def yC(a:ByteArray)(row:List ByteArray):List z7->Option Nat
 |[]=>none
 |f::b=>if f.1=a/\f.2.1=row then some 0 else(yC a row b).map (·+1)
def jj(a:ByteArray)(row:List ByteArray)(fs:List z7):Int:=match yC a row fs with
 |none=>-1
 |some k=>k
theorem B8{a:ByteArray}{row:List ByteArray}{fs:List z7}{k:Nat}(b:k<fs.length):yC a row (fs.drop k)=if fs[k].1=a/\fs[k].2.1=row then some 0 else(yC a row (fs.drop (k+1))).map (·+1):=by
 rw[xg b];rfl
end
structure Qr (t:List zg) (ns:List ByteArray) (R:zx):Prop where
 rise:y5 (Pb t)
 nrise:y5 ns
 inv:vQ (t.map (·.jf)) (yn ns.length) R
 small:∀a∈t.map (·.jf),a<=3
 inside:sC (t.map (·.jf)) ns.length (zxy (t.map (·.jf)) R)
 few:R.count<=1048576/\t.length<=1000/\ns.length<=1000
def gK(t:List zg)(p:Nat):ByteArray:=(Pb t).getD p ByteArray.empty
theorem Qr.len{t:List zg}{ns:List ByteArray}{R:zx}(h:Qr t ns R):R.rows.length=t.length:=by have:=h.inv.len;simpa using this
section
open Go.RowKit
theorem Pt.told{cs:List zc}{b t:List zg}(h:Pt cs b t){R:zx}{D:DB}{k mr mx:Nat}(c:vQ (t.map (·.jf)) (yn (zp cs).length) R)(l:zxy (t.map (·.jf)) R=D)(n:z0c (qF t (zp cs) none cs) mr mx=some (D,k))(j:R.count<=1048576):Qr t (zp cs) R:=by
 have g:∀i (c:i<cs.length),f8 (xb ((vA none i).getD [])) (zy cs[i]).length:=fun i c=>tw (lY (h.many _ (zu c)));have a:=sQ h (zp cs) none g;have e:PS t=PS b:=by have:=mH (b.length+1) b cs;rw[h.jm] at this;exact this
 have m:Pb t=Pb b:=by
  have:=congrArg (List.map Prod.fst) e;simpa [PS,Pb,Function.comp_def] using this
 obtain⟨_,o,_⟩:=h.low;have p:=h.few;have d:=C2 cs;have f:(zp cs).length<=500:=by
  have:=tI cs [];simp only[jH,uL] at this;show(cs.foldl vw []).length<=500;omega
 exact⟨by rw[m];exact h.tab.rise,(gG cs).1,c,a.small,by rw[l];exact MY h none g n,j,by omega,by omega⟩
end
section
open Classical
variable {t t0:List zg}{cs:List zc}
theorem Kp{c:List zg}{l:zj}(b:∀e∈t,e.qh=0)(h:vg t l=some c):∀e∈c,e.qh=0:=by
 unfold vg at h;split at h
 ·split at h
  ·simp only[zs] at h;subst h;exact b
  ·cases h
 ·simp only[zs] at h;subst h;intro e a;rcases rh.1 a with rfl|a
  ·rfl
  ·exact b e a
theorem A7:∀(b done:List zj) (t:List zg),Qk t done->(∀e∈t,e.qh=0)->(∀x∈done++b,∀y∈done++b,x.pred=y.pred->x.args.length=y.args.length)->∃c,b.foldl uk (some t)=some c/\Qk c (done++b)/\∀e∈c,e.qh=0
 |[],done,t,h,g,_=>⟨t,rfl,by simpa using h,g⟩
 |l::b,done,t,h,g,j=>by
  rw[uv];cases a:vg t l with
  |none=>
   exfalso;unfold vg at a;split at a
   ·rename_i e q;obtain⟨k,p⟩:=mB q;split at a
    ·cases a
    ·rename_i i;obtain⟨n,d,f⟩:=(h.names e.name).1 (zB.2 ⟨e,k,rfl⟩);apply i;rw[←h.jf e k n d f];exact j n (by simp[d]) l (by simp) (f.trans p)
   ·cases a
  |some m=>
   rw[show uk (some t) l=some m from a];obtain⟨c,o,s,r⟩:=A7 b (done++[l]) m (h.step a) (Kp g a) (by simpa [List.append_assoc] using j);exact⟨c,o,by simpa [List.append_assoc] using s,r⟩
theorem JC{c:List zj}(h:Qk t c){x y:zj}(d:x∈c)(g:y∈c)(e:x.pred=y.pred):x.args.length=y.args.length:=by
 obtain⟨a,f,b⟩:=zB.1 ((h.names x.pred).2 ⟨x,d,rfl⟩);rw[h.jf a f x d b.symm,h.jf a f y g (e.symm.trans b.symm)]
theorem Cv(h:Qk t (cs.flatMap zm)):jS t cs:=by
 intro c g l f;cases b:zY t l.pred with
 |some e=>rfl
 |none=>
  obtain⟨e,d,a⟩:=zB.1 ((h.names l.pred).2 ⟨l,uX.2 ⟨c,g,f⟩,rfl⟩);exact zC a (mI h.rise b e d)
theorem Of(h:∀e∈t,e.qh=0)(n:ByteArray):val t n=0:=by
 unfold val;split
 ·rename_i e a;exact h e (mB a).1
 ·rfl
theorem JJ(h:uh cs=some t0):∀e∈t0,e.qh=0:=by
 have f:=AK h;obtain⟨u,u1,u2,u3⟩:=A7 (cs.flatMap zm) [] [] rS (fun e c=>by cases c) (fun x b y a e=>JC f (by simpa using b) (by simpa using a) e);have d:u=t0:=by unfold uh at h;rw[u1] at h;simpa using h
 subst d;exact u3
theorem Pt.least(h:Pt cs t0 t):PH cs (val t):=by
 have:=(tL (Cv h.tab) (Of (JJ h.coll))).2 (by rw[h.jm]);rwa [h.jm] at this
theorem Pt.nam(h:Pt cs t0 t):Pb t=Pb t0/\PS t=PS t0:=by
 have b:=tn (t0.length+1) t0 cs (Cv h.tab);have a:=mH (t0.length+1) t0 cs;rw[h.jm] at b a;exact⟨b,a⟩
end
section
open Classical
theorem BZ{cs:List zc}{b t:List zg}(h:Pt cs b t){c:zc}(d:c∈cs){l:zj}(a:l∈zm c):l.pred∈Pb t:=by
 rw[h.nam.1];exact(h.tab.names l.pred).2 ⟨l,uX.2 ⟨c,d,a⟩,rfl⟩
theorem Bg{t:List zg}{ns:List ByteArray}(cs:List zc)(s:Nat):((uJ t ns none cs).filter fun r=>decide (r.qh=s))=[]↔¬∃c∈cs,0<c.body.length/\xz t c.head.pred=s:=by
 rw[List.filter_eq_nil_iff];constructor
 ·rintro q ⟨c,f,b,d⟩;obtain⟨i,a,rfl⟩:=kX.1 f;have:=q _ (tQ.2 ⟨i,a,b,rfl⟩);exact this (decide_eq_true d)
 ·intro q r g;obtain⟨i,a,b,rfl⟩:=tQ.1 g;exact fun e=>q ⟨_,zu a,b,of_decide_eq_true e⟩
theorem La{rs:List zr}{k:Nat}{D:DB}{p:Nat}{x:zk}{m:Nat}(h:D p x=some m):zyf rs k D p x=some m:=by
 unfold zyf;rw[h]
end
section
open Classical
variable {ns:List ByteArray}
def P8(σ:ByteArray->ByteArray)(l:zj):List ByteArray:=l.args.map fun a=>if zV a=true then σ a else a
theorem eE{i:Nat}(h:i<ns.length):ns.getD i ByteArray.empty∈ns:=by
 rw[Ph _ h];exact zu h
theorem tt{cs:List zc}{c:zc}(m:c∈cs){l:zj}(k:l∈zm c)(p:l.args.length<=3)(σ:ByteArray->Nat):x6 (zp cs) (vH (zp cs) σ l) l.args.length 3=P8 (fun v=>(zp cs).getD (σ v) ByteArray.empty) l:=by
 have d:=gG cs;have a:∀i (b:i<l.args.length),(zp cs).getD ((vH (zp cs) σ l).getD i 0) ByteArray.empty=if zV l.args[i]=true then(zp cs).getD (σ l.args[i]) ByteArray.empty else l.args[i]:=by
  intro i b;have e:(vH (zp cs) σ l).getD i 0=jI (zp cs) σ l i:=by
   have:i=0∨i=1∨i=2:=by omega
   rcases this with rfl|rfl|rfl<;>rfl
  rw[e];unfold jI;rw[yq b];simp only;split
  ·rfl
  ·rename_i g;have j:=(d.2 _).2 ⟨c,m,l,k,zu b,by simpa using g⟩;obtain⟨v,f,n⟩:=Aj d.1 j;rw[f];exact(mR f).2
 apply kJ
 ·simp[x6,P8]
 ·intro i h o;have b:i<l.args.length:=by simpa [x6] using h
  simp only[x6,P8,vO,nD];rw[zb (by omega),a i b]
theorem Iy(o:y5 ns){l:zj}{r:zk}(g:Pp l.args.length r)(k:∀i,i<l.args.length->r.getD i 0<ns.length){σ:ByteArray->ByteArray}(h:x6 ns r l.args.length 3=P8 σ l):r=vH ns (fun v=>(yT ns (σ v)).getD 0) l:=by
 have d:∀i,i<3->r.getD i 0=jI ns (fun v=>(yT ns (σ v)).getD 0) l i:=by
  intro i n;unfold jI;by_cases j:i<l.args.length
  ·have e:(x6 ns r l.args.length 3)[i]'(by rw[nX];exact j)=(P8 σ l)[i]'(by simp[P8];exact j):=by simp only[h]
   simp only[x6,P8,vO,nD] at e;rw[zb (by omega)] at e;have m:=pW o (k i j);rw[yq j];simp only;split
   ·rename_i f;rw[zb f] at e;rw[←e,m];rfl
   ·rename_i f;rw[za f] at e;rw[←e,m];rfl
  ·rw[kR (by omega)];exact g.2 i (by omega)
 match r,g.1 with
 |[a,b,c],_=>
  have p:=d 0 (by omega);have s:=d 1 (by omega);have q:=d 2 (by omega);unfold vH;rw[←p,←s,←q];rfl
end
section
open Classical
abbrev y6:=List (ByteArray×ByteArray)
def Po:y6->ByteArray->Option ByteArray
 |[],_=>none
 |x::B,t=>if x.1=t then some x.2 else Po B t
def yc(B:y6)(t:ByteArray):ByteArray:=if zV t=true then(Po B t).getD ByteArray.empty else t
def xn:y6->List ByteArray->List ByteArray->Option y6
 |B,[],_=>some B
 |B,a::b,row=>if yc B a=ByteArray.empty then xn (B++[(a,row.headD ByteArray.empty)]) b row.tail else if yc B a=row.headD ByteArray.empty then xn B b row.tail else none
def yB(B:y6)(args:List ByteArray):List ByteArray:=args.map (yc B)
theorem p6(B C:y6)(t:ByteArray):Po (B++C) t=(Po B t).or (Po C t):=by
 induction B with
 |nil=>rfl
 |cons x B a=>
  rw[f5,Po,Po];split
  ·rfl
  ·exact a
def vG(B:y6):Prop:=∀v x,Po B v=some x->x≠ByteArray.empty
def QJ(B C:y6):Prop:=∀v x,Po B v=some x->Po C v=some x
theorem QJ.trans{A B C:y6}(h:QJ A B)(k:QJ B C):QJ A C:=fun v x q=>k v x (h v x q)
theorem m6{B C:y6}(h:QJ B C){t:ByteArray}(a:yc B t≠ByteArray.empty):yc C t=yc B t:=by
 unfold yc at *;split
 ·rename_i q;rw[zb q] at a;cases b:Po B t with
  |none=>rw[b] at a;exact zC rfl a
  |some x=>rw[h t x b]
 ·rfl
theorem ny:∀(args row:List ByteArray) (B b:y6),args.length=row.length->(∀x∈row,x≠ByteArray.empty)->(∀a∈args,a≠ByteArray.empty)->vG B->xn B args row=some b->vG b/\QJ B b/\yB b args=row
 |[],row,B,b,l,_,_,j,h=>by
  simp only[xn,zs] at h;subst h;have:row=[]:=by cases row with|nil=>rfl|cons a r=>simp at l
  subst this;exact⟨j,fun v x q=>q,rfl⟩
 |a::g,[],B,b,l,_,_,_,_=>by simp at l
 |a::g,r::n,B,b,l,z,t,j,h=>by
  have i:g.length=n.length:=by simpa using l
  have p:=z r (by simp);have A:=t a (by simp);unfold xn at h;change (if yc B a=ByteArray.empty then xn (B++[(a,r)]) g n else if yc B a=r then xn B g n else none)=some b at h;split at h
  ·rename_i c;have d:zV a=true:=by
    false_or_by_contra
    rename_i q;unfold yc at c;rw[za q] at c;exact A c
   have o:Po B a=none:=by
    unfold yc at c;rw[zb d] at c;cases f:Po B a with
    |none=>rfl
    |some x=>rw[f] at c;exact zC c (j a x f)
   have w:vG (B++[(a,r)]):=by
    intro v x q;rw[p6] at q;cases f:Po B v with
    |some y=>rw[f] at q;simp only[Option.some_or,zs] at q;rw[←q];exact j v y f
    |none=>
     rw[f] at q;simp only[Option.none_or,Po] at q;split at q
     ·simp only[zs] at q;rw[←q];exact p
     ·cases q
   have C:QJ B (B++[(a,r)]):=by
    intro v x q;rw[p6,q];rfl
   obtain⟨u,k,m⟩:=ny g n _ b i (fun x e=>z x (by simp[e])) (fun x e=>t x (by simp[e])) w h;refine⟨u,C.trans k,?_⟩;unfold yB at m ⊢;rw[jx,m];congr 1;have:Po (B++[(a,r)]) a=some r:=by
    rw[p6,o];simp[Po]
   unfold yc;rw[zb d,k a r this];rfl
  ·rename_i c;by_cases s:yc B a=r
   ·rw[zb s] at h;obtain⟨u,k,m⟩:=ny g n B b i (fun x e=>z x (by simp[e])) (fun x e=>t x (by simp[e])) j h;refine⟨u,k,?_⟩;unfold yB at m ⊢;rw[jx,m,m6 k c,s]
   ·rw[za s] at h;cases h
def Qo(B:y6)(σ:ByteArray->ByteArray):Prop:=∀v x,Po B v=some x->σ v=x
theorem tp{σ:ByteArray->ByteArray}(c:∀a,σ a≠ByteArray.empty):∀(args:List ByteArray) (B:y6),(∀a∈args,a≠ByteArray.empty)->Qo B σ->∃l,xn B args (args.map fun a=>if zV a=true then σ a else a)=some l/\Qo l σ
 |[],B,_,h=>⟨B,rfl,h⟩
 |a::i,B,g,h=>by
  unfold xn;simp only[jx,List.headD_cons,fX];by_cases b:zV a=true
  ·rw[zb b];cases j:Po B a with
   |none=>
    have f:yc B a=ByteArray.empty:=by unfold yc;rw[zb b,j];rfl
    rw[zb f];refine tp c i _ (fun x d=>g x (by simp[d])) fun v x q=>?_;rw[p6] at q;cases k:Po B v with
    |some y=>rw[k] at q;simp only[Option.some_or,zs] at q;rw[←q];exact h v y k
    |none=>
     rw[k] at q;simp only[Option.none_or,Po] at q;split at q
     ·rename_i e;simp only[zs] at q;rw[←q,e]
     ·cases q
   |some x=>
    have d:=h a x j;have f:yc B a=x:=by unfold yc;rw[zb b,j];rfl
    rw[f,za (by rw[←d];exact c a),zb d.symm];exact tp c i B (fun x d=>g x (by simp[d])) h
  ·have f:yc B a=a:=by unfold yc;rw[za b]
   rw[za b,f,za (g a (by simp)),zb rfl];exact tp c i B (fun x d=>g x (by simp[d])) h
theorem tO{a:ByteArray}{row:List ByteArray}:∀{fs:List z7} {k:Nat},yC a row fs=some k->∃e:k<fs.length,fs[k].1=a/\fs[k].2.1=row
 |[],_,h=>by cases h
 |f::fs,k,h=>by
  unfold yC at h;split at h
  ·rename_i q;simp only[zs] at h;subst h;exact⟨by simp,by simpa using q⟩
  ·obtain⟨j,b,rfl⟩:=vr.1 h;obtain⟨d,c⟩:=tO b;exact⟨by simpa using d,by simpa using c⟩
theorem wW{a:ByteArray}{row:List ByteArray}:∀{fs:List z7},yC a row fs=none->∀m,(a,row,m)∉fs
 |[],_,m,h=>by cases h
 |f::fs,b,m,h=>by
  unfold yC at b;split at b
  ·cases b
  ·rename_i q;rw[Option.map_eq_none_iff] at b;rcases zw.1 h with e|h
   ·rw[←e] at q;exact q ⟨rfl,rfl⟩
   ·exact wW b m h
theorem Qo.val{B:y6}{σ:ByteArray->ByteArray}(h:Qo B σ){a:ByteArray}(b:yc B a≠ByteArray.empty):yc B a=if zV a=true then σ a else a:=by
 unfold yc at *;split
 ·rename_i q;rw[zb q] at b;cases c:Po B a with
  |none=>rw[c] at b;exact zC rfl b
  |some x=>rw[h a x c];rfl
 ·rfl
end
section
open Go.RowKit
def xj(B:y6):List ByteArray:=B.map (·.1)
def xP(B:y6):List ByteArray:=B.map (·.2)
theorem I2{B:y6}{k:Nat}(a:k<B.length)(t:ByteArray):Po (B.drop k) t=if B[k].1=t then some B[k].2 else Po (B.drop (k+1)) t:=by
 rw[xg a];rfl
end
end Go.Proofs.YteampbddflhngaaGreat
