import Derived.Test.YteampbddflhngaaGreatV04
namespace Go.Proofs.YteampbddflhngaaGreat
open Classical
section
variable {ar:List Nat}{W wd:Nat}{D0:DB}{ws:List yb}{rs:List zr}
structure pA (rs:List zr) (ar:List Nat) (W:Nat):Prop where
 rules:∀r∈rs,mX r ar W
 apart:∀r∈rs,∀r'∈rs,∀l∈r.qp,l.pred≠r'.head.pred
def tz(rs:List zr)(R:zx):Prop:=∀q x,x∈R.qo.getD q []->∃r∈rs,q=r.head.pred
theorem PT.qp{ar:List Nat}{W k:Nat}{D:DB}{c0:List Nat}{R:zx}{rs:List zr}(h:PT ar W k D c0 R)(f:pA rs ar W)(a:tz rs R){r:zr}(i:r∈rs):∀l∈r.qp,∀x,zxy ar R l.pred x=D l.pred x:=by
 intro l g x;rw[h.abs];cases j:D l.pred x with
 |some m=>rfl
 |none=>
  simp only;rw[za];intro b;obtain⟨c,e,d⟩:=a _ x b;exact f.apart r i c e l g d
inductive jN (ar:List Nat) (W:Nat) (D0 D:DB) (c:List Nat):List yb->List zr->Prop
 |nil:jN ar W D0 D c [] []
 |cons {w:yb} {r:zr} {ws:List yb} {rs:List zr}:eF ar W w r D0 D c->jN ar W D0 D c ws rs->jN ar W D0 D c (w::ws) (r::rs)
def n5(first:Bool)(r:zr)(D0 D:DB)(x:zk):Prop:=if first then Q9 r D x else ∃y,QH r D0 D 0 y/\x=zG r.head y
theorem J7{k:Nat}{D:DB}{c0:List Nat}(M:pJ ar D)(H:∀p x,Pj D0 p x->Pj D p x)(N:∀a∈ar,a<=3)(L:0<W){mr:Nat}(m:mr<=1048576)(d:Nat){f:List zr}(E:pA f ar W)(l:∀r∈f,f6 W r<=d)(first:Bool)(T:jN ar W D0 D c0 ws rs)(h:∀r∈rs,r∈f):
  ∀(R:zx),PT ar W k D c0 R->R.count<=mr->tz f R->∃B ok,fB d wd mr first ws R=some (B,ok)/\sU ar W k D c0 mr (fun q x=>∃r∈rs,q=r.head.pred/\Q9 r D x) R B ok/\tz f B/\(ok=true->∀r∈rs,∀x,n5 first r D0 D x->Pj (zxy ar B) r.head.pred x):=by
 induction T with
 |nil=>
  intro R t C A;exact⟨R,true,rfl,⟨t,fun q x b=>b,fun q x b=>zf b,fun _=>C,fun q=>by cases q⟩,A,fun _ r Z=>by cases Z⟩
 |@cons w r ws rs s X U=>
  intro R t C A;have c:=h r (by simp);have K:=t.qp E A c;have u:∃g ok,dM d wd mr first R w=some (g,ok)/\sU ar W k D c0 mr (fun q x=>q=r.head.pred/\Q9 r D x) R g ok/\(ok=true->∀x,n5 first r D0 D x->Pj (zxy ar g) r.head.pred x):=by
   cases first with
   |true=>
    obtain⟨g,ok,v,e,n⟩:=Hu (wd:=wd) s M (E.rules r c) N L m t C K d (l r c);exact⟨g,ok,v,e,fun q x b=>n q x (by simpa [n5] using b)⟩
   |false=>
    obtain⟨g,ok,v,e,n⟩:=Nd (wd:=wd) s M H (E.rules r c) N L m d (l r c) (E.apart r c r c) w.qm.length 0 R (by omega) t C K;refine⟨g,ok,?_,e,fun q x b=>?_⟩
    ·unfold dM;exact v
    ·have I:∃y,QH r D0 D 0 y/\x=zG r.head y:=by simpa [n5] using b
     obtain⟨y,Y,rfl⟩:=I;exact n q y Y
  obtain⟨g,ok,v,e,n⟩:=u;have o:tz f g:=by
   intro q x b;rcases e.sound q x b with z|z
   ·exact A q x z
   ·exact⟨r,c,z.1⟩
  unfold fB;rw[v];cases ok with
  |false=>
   exact⟨g,false,rfl,⟨e.mid,e.mono,fun q x b=>(e.sound q x b).imp id fun z=>⟨r,by simp,z⟩,e.yes,e.no⟩,o,fun q=>by cases q⟩
  |true=>
   simp only;obtain⟨Q,G,V,i,S,O⟩:=U (fun x b=>h x (by simp[b])) g e.mid (e.yes rfl) o;refine⟨Q,G,V,⟨i.mid,fun q x b=>i.mono q x (e.mono q x b),fun q x b=>?_,i.yes,i.no⟩,S,fun J F j x b=>?_⟩
   ·rcases i.sound q x b with z|⟨F,z1,P⟩
    ·exact(e.sound q x z).imp id fun z=>⟨r,by simp,z⟩
    ·exact ze ⟨F,by simp[z1],P⟩
   ·rcases zw.1 j with rfl|j
    ·exact e.mid.grow i.mid i.mono (n rfl x b)
    ·exact O J F j x b
theorem L3{r:zr}{D:DB}(q:∀p x,Pj D0 p x->Pj D p x){y:List Nat}(A:∀l∈r.qc,Pj D l.pred (zG l y))(w:∀l∈r.qp,D l.pred (zG l y)=none):QH r D0 D 0 y∨Q9 r D0 (zG r.head y):=by
 by_cases c:∀l∈r.qc,Pj D0 l.pred (zG l y)
 ·refine ze ⟨y,c,fun l e=>?_,rfl⟩;cases d:D0 l.pred (zG l y) with
  |none=>rfl
  |some m=>
   have:=q l.pred (zG l y) (by unfold Pj;rw[d];rfl);unfold Pj at this;rw[w l e] at this;cases this
 ·refine zf ?_;have h:∃(j:Nat) (l:zt),r.qc[j]?=some l/\¬Pj D0 l.pred (zG l y):=by
   false_or_by_contra
   rename_i g;apply c;intro l e;obtain⟨i,H,rfl⟩:=vl e;false_or_by_contra
   rename_i d;exact g ⟨i,_,yq H,d⟩
  have f:∀n j:Nat,j=n->(∃l,r.qc[j]?=some l/\¬Pj D0 l.pred (zG l y))->∃(j:Nat) (l:zt),r.qc[j]?=some l/\¬Pj D0 l.pred (zG l y)/\∀(t:Nat) (a:zt),t<j->r.qc[t]?=some a->Pj D0 a.pred (zG a y):=by
   intro n;induction n using Nat.strongRecOn with
   |_ n E=>
    rintro j rfl ⟨l,e,d⟩;by_cases b:∃(t:Nat) (a:zt),t<j/\r.qc[t]?=some a/\¬Pj D0 a.pred (zG a y)
    ·obtain⟨t,a,k,o,s⟩:=b;exact E t k t rfl ⟨a,o,s⟩
    ·refine⟨j,l,e,d,fun t a k o=>?_⟩;false_or_by_contra
     rename_i s;exact b ⟨t,a,k,o,s⟩
  obtain⟨v,J,G,I⟩:=h;obtain⟨j,l,B,F,C⟩:=f v v rfl ⟨J,G,I⟩;exact⟨j,l,zv _,B,A l (gz B),F,fun t a u=>⟨fun z=>C t a z u,fun _=>A a (gz u)⟩,w⟩
theorem A8{ar:List Nat}{W wd k:Nat}(I:W=yn wd){D0 D:DB}{c0:List Nat}{R':zx}(z:∀p x,Pj D0 p x->Pj D p x)(g:PT ar W k D c0 R')(L:R'.count<=1048576)(a:Nat)(s:3*(W+1)<=a):
  ∀(d:List zt) (vs:List yL),vs.length=d.length->(∀l∈d,l.pred<ar.length)->(∀(i:Nat) (l:zt) (V:yL),d[i]?=some l->vs[i]?=some V->mT V l W (Pj D0 l.pred) (Pj D l.pred) (fun x=>Pj D l.pred x/\¬Pj D0 l.pred x) (c0.getD l.pred 0)) →
   ∃c,lD a wd R'.qo vs=some c/\c.length=d.length/\∀(i:Nat) (l:zt) (V:yL),d[i]?=some l->c[i]?=some V->mT V l W (Pj D l.pred) (Pj (zxy ar R') l.pred) (fun x=>Pj (zxy ar R') l.pred x/\¬Pj D l.pred x) ((R'.rows.map (·.count)).getD l.pred 0)
 |[],[],_,_,_=>⟨[],rfl,rfl,fun i l V h=>by simp at h⟩
 |[],V::vs,u,_,_=>by simp at u
 |l::d,[],u,_,_=>by simp at u
 |l::d,V::vs,u,K,J=>by
  have H:=J 0 l V rfl rfl;have o:=K l (by simp);have j:l.pred<R'.qo.length:=by rw[g.flen];exact o
  have f:l.pred<R'.rows.length:=by rw[g.inv.len];exact o
  have t:=g.qo l.pred j;have v:=g.cnts l.pred f;have C:=eP R'.rows l.pred f;rw[←g.inv.cnt] at C;have F:R'.qo.getD l.pred []=R'.qo[l.pred]:=Ph _ j;rw[F] at v;obtain⟨B,O,r⟩:=C5 H I R'.qo[l.pred] (fun x n=>(t.2 x n).2.1) (by omega) a s;obtain⟨c,P,M,N⟩:=A8 I z g L a s d vs (by simpa using u) (fun x n=>K x (by simp[n])) (fun i E B y w=>J (i+1) E B (by simpa using y) (by simpa using w));have b:∀x,Pj (zxy ar R') l.pred x↔Pj D l.pred x∨x∈R'.qo[l.pred]:=by
   intro x;unfold Pj;rw[g.abs,F];cases R:D l.pred x with
   |some m=>simp
   |none=>
    simp only;by_cases n:x∈R'.qo[l.pred]
    ·simp[n]
    ·simp[n]
  refine⟨B::c,?_,by simp[M],fun i E U y w=>?_⟩
  ·unfold lD;rw[H.lit,zb j,F,O,P]
  ·cases i with
   |zero=>
    simp only[gY,zs] at y w;subst y;subst w;refine⟨r.lit,r.before.congr fun x=>?_,r.qo.congr fun x=>?_,r.all.congr fun x=>(b x).symm,?_⟩
    ·constructor
     ·rintro(q|q)
      ·exact z _ x q
      ·exact q.1
     ·intro q;by_cases G:Pj D0 l.pred x
      ·exact zf G
      ·exact ze ⟨q,G⟩
    ·constructor
     ·intro q;refine⟨(b x).2 (ze q),fun A=>?_⟩;unfold Pj at A;rw[(t.2 x q).2.2] at A;cases A
     ·rintro⟨Q,A⟩;exact((b x).1 Q).resolve_left A
    ·have e:(R'.rows.map (·.count)).getD l.pred 0=R'.rows[l.pred].count:=by simp[List.getD,f]
     rw[e,v];exact r.few
   |succ i=>exact N i E U (by simpa using y) (by simpa using w)
theorem LS{k:Nat}(o:W=yn wd){D:DB}{c0:List Nat}{R':zx}(f:∀p x,Pj D0 p x->Pj D p x)(y:PT ar W k D c0 R')(j:R'.count<=1048576)(a:Nat)(d:3*(W+1)<=a)(s:jN ar W D0 D c0 ws rs)(g:∀r∈rs,∀l∈r.qc,l.pred<ar.length):
  ∃b,l6 a wd R'.qo ws=some b/\jN ar W D (zxy ar R') (R'.rows.map (·.count)) b rs:=by
 induction s with
 |nil=>exact⟨[],rfl,jN.nil⟩
 |@cons w r ws rs c u t=>
  obtain⟨b,q,n⟩:=t (fun x h=>g x (by simp[h]));obtain⟨e,v,m,i⟩:=A8 o f y j a d r.qc w.qm c.len (g r (by simp)) c.qm;refine⟨{w with qm:=e}::b,?_,jN.cons ⟨c.rule,m,i⟩ n⟩;unfold l6;rw[v,q]
def gN(rs:List zr)(D:DB)(p:Nat)(x:zk):Prop:=∃r∈rs,p=r.head.pred/\Q9 r D x
noncomputable def zyf(rs:List zr)(k:Nat)(D:DB):DB:=fun p x=>match D p x with
 |some m=>some m
 |none=>if gN rs D p x then some k else none
theorem PT.clear{R:zx}(h:vQ ar W R):PT ar W R.qx (zxy ar R) (R.rows.map (·.count)) (qv R):=by
 have c:∀p,(List.replicate R.rows.length ([]:List zk)).getD p []=[]:=fun p=>by
  by_cases a:p<R.rows.length<;>simp[List.getD,a]
 refine⟨⟨h.len,h.tries,h.cnt⟩,rfl,by simp[qv,h.len],fun p a=>?_,fun p x=>?_,fun p a=>?_⟩
 ·simp only[qv,we];exact⟨List.nodup_nil,fun x d=>by cases d⟩
 ·show zxy ar R p x=match zxy ar R p x with|some m=>some m|none=>if x∈(List.replicate R.rows.length ([]:List zk)).getD p [] then some R.qx else none
  rw[c];cases zxy ar R p x<;>simp
 ·show R.rows[p].count=(R.rows.map (·.count)).getD p 0+((List.replicate R.rows.length ([]:List zk)).getD p []).length;have b:p<R.rows.length:=a;rw[c,show(R.rows.map (·.count)).getD p 0=R.rows[p].count by simp[List.getD,b]];rfl
theorem PT.start{R:zx}(h:vQ ar W R):PT ar W (R.qx+1) (zxy ar R) (R.rows.map (·.count)) (qv {R with qx:=R.qx+1}):=
 PT.clear (R:={R with qx:=R.qx+1}) ⟨h.len,h.tries,h.cnt⟩
theorem KW(t:W=yn wd)(O:∀a∈ar,a<=3){mr:Nat}(C:mr<=1048576)(c:Nat)(G:pA rs ar W)(u:(∀r∈rs,f6 W r<=c)/\3*(W+1)<=c)(first:Bool){R:zx}(P:vQ ar W R)(K:R.count<=mr)(n:∀p x,Pj D0 p x->Pj (zxy ar R) p x)(H:jN ar W D0 (zxy ar R) (R.rows.map (·.count)) ws rs)(B:first=false->∀p x,gN rs D0 p x->Pj (zxy ar R) p x):
  ∃b i ok,ph c wd mr first ws R=some (b,i,ok)/\vQ ar W b/\b.qx=R.qx+1/\(∀p x,Pj (zxy ar b) p x->Pj (zyf rs (R.qx+1) (zxy ar R)) p x)/\(ok=false->b.count>mr)/\(ok=true->b.count<=mr/\zxy ar b=zyf rs (R.qx+1) (zxy ar R)/\jN ar W (zxy ar R) (zxy ar b) (b.rows.map (·.count)) i rs):=by
 have N:0<W:=by rw[t];unfold yn;split<;>omega
 have E:=PT.start P;have w:∀q x,x∉(qv {R with qx:=R.qx+1}).qo.getD q []:=fun q x f=>by
  have:(List.replicate R.rows.length ([]:List zk)).getD q []=[]:=by by_cases Q:q<R.rows.length<;>simp[List.getD,Q]
  have z:x∈(List.replicate R.rows.length ([]:List zk)).getD q []:=f;rw[this] at z;cases z
 obtain⟨b,ok,T,g,U,F⟩:=J7 (wd:=wd) (C7 ar R) n O N C c G u.1 first H (fun r o=>o) (qv {R with qx:=R.qx+1}) E K (fun q x f=>zC f (w q x))
 have d:∀p x,x∈b.qo.getD p []->gN rs (zxy ar R) p x:=fun p x f=>(g.sound p x f).resolve_left (w p x);have j:∀p x,Pj (zxy ar b) p x->Pj (zyf rs (R.qx+1) (zxy ar R)) p x:=by
  intro p x f;unfold Pj at f ⊢;rw[g.mid.abs] at f;unfold zyf;cases v:zxy ar R p x with
  |some m=>rfl
  |none=>
   rw[v] at f;by_cases k:x∈b.qo.getD p []
   ·rw[zb (d p x k)];rfl
   ·rw[za k] at f;cases f
 unfold ph;rw[T];cases ok with
 |false=>exact⟨b,ws,false,rfl,g.mid.inv,g.mid.qx,j,fun _=>g.no rfl,fun q=>by cases q⟩
 |true=>
  have h:=g.yes rfl;obtain⟨i,S,L⟩:=LS t n g.mid (by omega) c u.2 H (fun r o l M=>((G.rules r o).qc l M).1);simp only[S,jZ];refine⟨b,i,true,rfl,g.mid.inv,g.mid.qx,j,fun q=>(by cases q),fun _=>⟨h,?_,L⟩⟩;have s:∀p x,gN rs (zxy ar R) p x->Pj (zxy ar b) p x:=by
   rintro p x ⟨r,o,rfl,y,I,J,rfl⟩;cases first with
   |true=>exact F rfl r o _ (by simp only[n5,if_true];exact⟨y,I,J,rfl⟩)
   |false=>
    rcases L3 n I J with q|q
    ·exact F rfl r o _ (by simp only[n5];exact⟨y,q,rfl⟩)
    ·have D:=B rfl r.head.pred _ ⟨r,o,rfl,q⟩;unfold Pj at D ⊢;rw[g.mid.abs];cases v:zxy ar R r.head.pred (zG r.head y) with
     |some m=>rfl
     |none=>rw[v] at D;cases D
  funext p x;have A:=g.mid.abs p x;unfold zyf;rw[A];cases v:zxy ar R p x with
  |some m=>rfl
  |none=>
   rw[v] at A;by_cases e:gN rs (zxy ar R) p x
   ·have:=s p x e;unfold Pj at this;rw[A] at this;by_cases k:x∈b.qo.getD p []
    ·rw[zb k,zb e]
    ·rw[za k] at this;cases this
   ·rw[za e,za (fun k=>e (d p x k))]
end
theorem sq{c:List Nat}{W:Nat}{R:zx}(h:vQ c W R)(s:∀a∈c,a<=3){p:Nat}(i:p<R.rows.length)(x:zk):x∈(PD R.rows[p]).map (fun k=>Qh k R.rows[p].ql)↔Pj (zxy c R) p x:=by
 obtain⟨n,t,m,r⟩:=h.tries p i;have b:p<c.length:=by rw[←h.len];exact i
 have g:c.getD p 0<=3:=by rw[Ph _ b];exact s _ (zu b)
 have j:R.rows[p].ql<=3:=by rw[m];exact(fm _).2
 have e:R.rows.getD p zi.zero=R.rows[p]:=Ph _ i;unfold Pj zxy;constructor
 ·intro d;obtain⟨k,o,rfl⟩:=zB.1 d;obtain⟨l,q⟩:=(qT _ k).1 o;rw[zb ⟨b,r k o⟩,e,n.mark _ (B4 l j),r7 l];exact q
 ·intro d;by_cases f:p<c.length/\Pp (c.getD p 0) x
  ·rw[zb f,e,n.mark x f.2.1] at d;refine zB.2 ⟨x.take R.rows[p].ql,(qT _ _).2 ⟨by rw[qa,f.2.1];omega,d⟩,?_⟩;rw[m,DS g f.2]
  ·rw[za f] at d;cases d
def fP(D:DB)(n:Nat):Prop:=∃l:List (Nat×zk),l.Nodup/\(∀p x,(p,x)∈l↔Pj D p x)/\l.length=n
theorem wy:∀{l1 l2:List (Nat×zk)},l1.Nodup->(∀x∈l1,x∈l2)->l1.length<=l2.length
 |[],l2,_,_=>by simp
 |a::l1,l2,d,f=>by
  have e:=f a (by simp);have g:=wy (l1:=l1) (l2:=l2.erase a) (jB.1 d).2 (fun x c=>by
   have b:x≠a:=by rintro rfl;exact(jB.1 d).1 c
   exact(mD b).2 (f x (by simp[c])))
  rw[nS e] at g;have:=mM e;simp;omega
theorem pV{D E:DB}{n m:Nat}(h:fP D n)(k:fP E m)(e:∀p x,Pj D p x->Pj E p x):n<=m:=by
 obtain⟨l,d,c,rfl⟩:=h;obtain⟨g,f,a,rfl⟩:=k;exact wy d fun x b=>(a x.1 x.2).2 (e _ _ ((c x.1 x.2).1 b))
theorem E4{D:DB}{n m:Nat}(h:fP D n)(k:fP D m):n=m:=Nat.le_antisymm (pV h k fun _ _ q=>q) (pV k h fun _ _ q=>q)
theorem GA{D E:DB}{n m:Nat}(h:fP D n)(k:fP E m)(i:∀p x,Pj D p x->Pj E p x)(d:m<=n):∀p x,Pj E p x->Pj D p x:=by
 intro p x e;false_or_by_contra
 rename_i f;obtain⟨l,g,c,rfl⟩:=h;obtain⟨j,o,b,rfl⟩:=k;have:=wy (l1:=(p,x)::l) (l2:=j) (jB.2 ⟨fun q=>f ((c p x).1 q),g⟩) (fun y a=>by
  rcases zw.1 a with rfl|a
  ·exact(b p x).2 e
  ·exact(b y.1 y.2).2 (i _ _ ((c y.1 y.2).1 a)))
 simp at this;omega
theorem vQ.card{g:List Nat}{W:Nat}{R:zx}(h:vQ g W R)(t:∀a∈g,a<=3):fP (zxy g R) R.count:=by
 refine⟨(List.range R.rows.length).flatMap fun p=>((PD (R.rows.getD p zi.zero)).map fun k=>Qh k (R.rows.getD p zi.zero).ql).map fun x=>(p,x),?_,fun p x=>?_,?_⟩
 ·unfold List.Nodup;rw[List.pairwise_flatMap];refine⟨fun p f=>?_,?_⟩
  ·have j:=kG.1 f;rw[mJ,Ph _ j,mJ];refine List.Pairwise.imp_of_mem ?_ (ot R.rows[p] R.rows[p].ql 0 0);intro a b v w c e;simp only[yo,true_and] at e;have l:=((qT R.rows[p] a).1 v).1;have r:=((qT R.rows[p] b).1 w).1;have:=congrArg (List.take R.rows[p].ql) e;rw[r7 l,r7 r] at this;exact c this
  ·refine List.Pairwise.imp ?_ (List.nodup_range (n:=R.rows.length));intro a b c x d y u e;obtain⟨_,_,rfl⟩:=zB.1 d;obtain⟨_,_,rfl⟩:=zB.1 u;simp only[yo] at e;exact c e.1
 ·simp only[uX,kG];constructor
  ·rintro⟨q,s,d⟩;obtain⟨z,m,e⟩:=zB.1 d;simp only[yo] at e;obtain⟨rfl,rfl⟩:=e;rw[Ph _ s] at m;exact(sq h t s z).1 m
  ·intro d;have f:p<R.rows.length:=by rw[h.len];exact(C7 g R p x d).1
   refine⟨p,f,zB.2 ⟨x,?_,rfl⟩⟩;rw[Ph _ f];exact(sq h t f x).2 d
 ·rw[List.length_flatMap,h.cnt];congr 1;refine kJ (by simp) fun i l r=>?_;have o:i<R.rows.length:=by simpa using l
  simp only[vO,nD,uH,Ph zi.zero o];exact(h.tries i o).1.cnt
def rc:DB:=fun _ _=>none
theorem CF{p:List Nat}{W wd:Nat}(c:W=yn wd)(w:∀a∈p,a<=3){R:zx}(h:vQ p W R)(G:R.count<=1048576)(b:Nat)(j:3*(W+1)<=b):∀(m:List zt),(∀l∈m,l.pred<p.length)->∃vs,li b wd R m=some vs/\vs.length=m.length/\∀(i:Nat) (l:zt) (V:yL),m[i]?=some l->vs[i]?=some V->mT V l W (Pj rc l.pred) (Pj (zxy p R) l.pred) (fun x=>Pj (zxy p R) l.pred x/\¬Pj rc l.pred x) ((R.rows.map (·.count)).getD l.pred 0)
 |[],_=>⟨[],rfl,rfl,fun i l V h=>by simp at h⟩
 |l::m,C=>by
  obtain⟨vs,K,H,D⟩:=CF c w h G b j m (fun x r=>C x (by simp[r]));have d:l.pred<R.rows.length:=by rw[h.len];exact C l (by simp)
  obtain⟨A,B,O,N⟩:=h.tries l.pred d;have u:=eP R.rows l.pred d;rw[←h.cnt] at u;have s:0<W:=by rw[c];unfold yn;split<;>omega
  have o:fT wd R l.pred=R.rows[l.pred]:=by unfold fT;rw[za (by omega),Ph _ d]
  have t:=A.rowsG b (by rw[B];exact j) (by omega);have E:mT (kh wd l) l W (fun _=>False) (fun _=>False) (fun _=>False) 0:=⟨rfl,uF.new l wd W c,uF.new l wd W c,uF.new l wd W c,by simp[kh,yS,yx],by simp[kh,yS,yx]⟩;have g:((PD R.rows[l.pred]).map fun k=>Qh k R.rows[l.pred].ql).length=R.rows[l.pred].count:=by rw[uH];exact A.cnt
  obtain⟨F,M,n⟩:=C5 E c ((PD R.rows[l.pred]).map fun k=>Qh k R.rows[l.pred].ql) (fun x r=>by
   obtain⟨k,I,rfl⟩:=zB.1 r;refine BY s ?_;intro v J;have:=ty k 0 ((qT _ k).1 I).2 v J;rw[B] at this;exact this) (by rw[g];omega) b j
  have f:∀x,¬Pj rc l.pred x:=fun x q=>by cases q
  refine⟨F::vs,?_,by simp[H],fun i L U y z=>?_⟩
  ·unfold li;rw[o,t];simp only[M,K]
  ·cases i with
   |zero=>
    simp only[gY,zs] at y z;subst y;subst z;refine⟨n.lit,n.before.congr fun x=>⟨fun q=>by rcases q with q|q<;>exact q.elim,fun q=>zC q (f x)⟩,n.qo.congr fun x=>?_,n.all.congr fun x=>?_,?_⟩
    ·rw[sq h w d];exact⟨fun q=>⟨q,f x⟩,fun q=>q.1⟩
    ·rw[sq h w d];exact⟨fun q=>q.resolve_left id,ze⟩
    ·have e:(R.rows.map (·.count)).getD l.pred 0=R.rows[l.pred].count:=by simp[List.getD,d]
     have:=n.few;rw[g] at this;rw[e];simpa using this
   |succ i=>exact D i L U (by simpa using y) (by simpa using z)
theorem D4{g:List Nat}{W wd:Nat}(f:W=yn wd)(k:∀a∈g,a<=3){R:zx}(h:vQ g W R)(o:R.count<=1048576)(c:Nat)(e:3*(W+1)<=c)(s:Nat):∀(b:List zr),(∀r∈b,∀l∈r.qc,l.pred<g.length)->∃d,PA c wd R s b=some d/\jN g W rc (zxy g R) (R.rows.map (·.count)) d (b.filter fun r=>decide (r.qh=s))
 |[],_=>⟨[],rfl,jN.nil⟩
 |r::b,m=>by
  obtain⟨d,n,j⟩:=D4 f k h o c e s b (fun x p=>m x (by simp[p]));unfold PA;by_cases i:r.qh=s
  ·obtain⟨vs,u,q,t⟩:=CF f k h o c e r.qc (m r (by simp));rw[zb i,u,n];refine⟨⟨r,vs⟩::d,rfl,?_⟩;rw[List.filter_cons_of_pos (by simp[i])];exact jN.cons ⟨rfl,q,t⟩ j
  ·rw[za i];refine⟨d,n,?_⟩;rw[List.filter_cons_of_neg (by simp[i])];exact j
theorem jN.length{b:List Nat}{W:Nat}{D0 D:DB}{c:List Nat}{a:List yb}{rs:List zr}(h:jN b W D0 D c a rs):a.length=rs.length:=by
 induction h with
 |nil=>rfl
 |cons _ _ d=>simp[d]
section
variable {ar:List Nat}{mr mx:Nat}
def nf(D:DB)(mr:Nat):Prop:=∃n,n<=mr/\fP D n
noncomputable def zxx(rs:List zr)(mr:Nat):Nat->Nat->DB->Option (DB×Nat)
 |0,_,_=>none
 |left+1,k,D=>
  if nf (zyf rs (k+1) D) mr then
   if ∀p x,Pj (zyf rs (k+1) D) p x->Pj D p x then some (zyf rs (k+1) D,k+1)
   else zxx rs mr left (k+1) (zyf rs (k+1) D)
  else none
noncomputable def zx8(rules:List zr)(mr mx:Nat):Nat->Nat->Nat->DB->Option (DB×Nat)
 |0,_,k,D=>some (D,k)
 |n+1,s,k,D=>
  if (rules.filter fun r=>decide (r.qh=s))=[] then zx8 rules mr mx n (s+1) k D
  else match zxx (rules.filter fun r=>decide (r.qh=s)) mr (mx-k) k D with
   |none=>none
   |some (D',k')=>zx8 rules mr mx n (s+1) k' D'
noncomputable def zzb(fs:List jt):DB:=fun p x=>if ∃f∈fs,f.pred=p/\f.row=x then some 0 else none
noncomputable def z0c(S:qU)(mr mx:Nat):Option (DB×Nat):=if nf (zzb S.facts) mr then zx8 S.rules mr mx S.qj.length 0 0 (zzb S.facts) else none
theorem EV(rs:List zr)(k:Nat)(D:DB):∀p x,Pj D p x->Pj (zyf rs k D) p x:=by
 intro p x h;unfold Pj zyf at *;cases a:D p x with
 |some m=>rfl
 |none=>rw[a] at h;cases h
theorem D1{rs:List zr}{k:Nat}{D:DB}:∀p x,gN rs D p x->Pj (zyf rs k D) p x:=by
 intro p x h;unfold Pj zyf;cases a:D p x with
 |some m=>rfl
 |none=>simp only;rw[zb h];rfl
theorem Lp{W wd:Nat}(w:W=yn wd)(F:∀a∈ar,a<=3)(z:mr<=1048576){rs:List zr}(S:pA rs ar W)(B:Nat)(G:(∀r∈rs,f6 W r<=B)/\3*(W+1)<=B):
  ∀(n:Nat) (first:Bool) (u:List yb) (R:zx) (D0:DB),vQ ar W R->R.count<=mr->R.qx<=mx->(∀p x,Pj D0 p x->Pj (zxy ar R) p x)->jN ar W D0 (zxy ar R) (R.rows.map (·.count)) u rs->(first=false->∀p x,gN rs D0 p x->Pj (zxy ar R) p x)->B+(mx-R.qx)<n →
  ∃j ok,dI wd mr mx n first u R=some (j,ok)/\(ok=false->zxx rs mr (mx-R.qx) R.qx (zxy ar R)=none)/\(ok=true->vQ ar W j/\j.count<=mr/\j.qx<=mx/\zxx rs mr (mx-R.qx) R.qx (zxy ar R)=some (zxy ar j,j.qx)):=by
 intro n;induction n with
 |zero=>intro first u R D0 _ _ _ _ _ _ h;omega
 |succ n Y=>
  intro first u R D0 J O hk E U y hn
  unfold dI;by_cases o:R.qx≥mx
  ·rw[zb o];refine⟨R,false,rfl,fun _=>?_,fun q=>by cases q⟩;rw[show mx-R.qx=0 by omega];rfl
  ·rw[za o];obtain⟨left,i⟩:∃left,mx-R.qx=left+1:=⟨mx-R.qx-1,by omega⟩;obtain⟨c,A,ok,a1,v,H,M,a5,N⟩:=KW w F z n S ⟨fun r Z=>by have:=G.1 r Z;omega,by have:=G.2;omega⟩ first J O E U y
   rw[a1];have b:=v.card F;have d:=J.card F;rw[i];cases ok with
   |false=>
    refine⟨c,false,rfl,fun _=>?_,fun q=>by cases q⟩;unfold zxx;rw[za];rintro⟨m,m1,V⟩;have:=pV b V M;have:=a5 rfl;omega
   |true=>
    obtain⟨D,t,Q⟩:=N rfl;simp only;have k:nf (zxy ar c) mr:=⟨c.count,D,b⟩;have f:∀p x,Pj (zxy ar R) p x->Pj (zxy ar c) p x:=by rw[t];exact EV _ _ _
    by_cases g:c.count>R.count
    ·rw[zb g];have s:¬∀p x,Pj (zxy ar c) p x->Pj (zxy ar R) p x:=fun q=>by
      have:=pV b d q;omega
     obtain⟨P,C,X,K,I⟩:=Y false A c (zxy ar R) v D (by omega) f Q (fun _ p x L=>by rw[t];exact D1 p x L) (by omega);have T:mx-c.qx=left:=by omega
     have e:zxx rs mr (left+1) R.qx (zxy ar R)=zxx rs mr left c.qx (zxy ar c):=by
      rw[zxx,←t,zb k,za s,H]
     rw[T] at K I;exact⟨P,C,X,fun q=>by rw[e];exact K q,fun q=>by rw[e];exact I q⟩
    ·rw[za g];have l:=GA d b f (by omega);refine⟨c,true,rfl,fun q=>(by cases q),fun _=>⟨v,D,by omega,?_⟩⟩;rw[zxx,←t,zb k,zb l,H]
structure rW (rs:List zr) (ar:List Nat) (W:Nat):Prop where
 rules:∀r∈rs,mX r ar W
 apart:∀r∈rs,∀r'∈rs,r.qh=r'.qh->∀l∈r.qp,l.pred≠r'.head.pred
theorem rW.jm{a:List zr}{W:Nat}(h:rW a ar W)(s:Nat):pA (a.filter fun r=>decide (r.qh=s)) ar W:=by
 refine⟨fun r c=>h.rules r (xY.1 c).1,fun r c d b l g=>h.apart r (xY.1 c).1 d (xY.1 b).1 ?_ l g⟩;have f:=(xY.1 c).2;have e:=(xY.1 b).2;simp at f e;omega
theorem J0{W wd:Nat}(e:W=yn wd)(A:∀a∈ar,a<=3)(m:mr<=1048576){b:List zr}(z:rW b ar W)(B:Nat)(k:(∀r∈b,f6 W r<=B)/\3*(W+1)<=B)(d:Nat)(F:B+mx<d):
  ∀(n s:Nat) (R:zx),vQ ar W R->R.count<=mr->R.qx<=mx->∃f ok,dF d wd mr mx b n s R=some (f,ok)/\(ok=false->zx8 b mr mx n s R.qx (zxy ar R)=none)/\(ok=true->vQ ar W f/\f.count<=mr/\zx8 b mr mx n s R.qx (zxy ar R)=some (zxy ar f,f.qx)):=by
 intro n;induction n with
 |zero=>intro s R h j _;exact⟨R,true,rfl,fun q=>(by cases q),fun _=>⟨h,j,rfl⟩⟩
 |succ n y=>
  intro s R h j v;obtain⟨u,K,t⟩:=D4 e A h (by omega) d (by have:=k.2;omega) s b (fun r o l H=>((z.rules r o).qc l H).1);have c:=t.length;unfold dF pp;rw[K];simp only;unfold zx8;by_cases i:(b.filter fun r=>decide (r.qh=s))=[]
  ·rw[zb i];rw[i] at c;rw[za (by simp at c;simp[c])];simp only;exact y (s+1) R h j v
  ·rw[za i];have g:u.length>0:=by rw[c];exact List.length_pos_iff.2 i
   rw[zb g];obtain⟨w,ok,L,D,I⟩:=Lp e A m (mx:=mx) (z.jm s) B ⟨fun r o=>k.1 r (xY.1 o).1,k.2⟩ d true u R rc h j v (fun p x q=>by cases q) t (fun q=>by cases q) (by omega);rw[L];cases ok with
   |false=>
    refine⟨w,false,rfl,fun _=>?_,fun q=>by cases q⟩;rw[D rfl]
   |true=>
    obtain⟨J,E,G,C⟩:=I rfl;simp only;rw[C];exact y (s+1) w J E G
theorem AS{ar:List Nat}{W:Nat}(v:∀a∈ar,a<=3){mr:Nat}(d:mr<=1048576){k:Nat}{D0:DB}{c0:List Nat}:∀(fs:List jt) (R:zx),(∀f∈fs,f.pred<ar.length/\Pp (ar.getD f.pred 0) f.row/\P6 W f.row)->PT ar W k D0 c0 R->R.count<=mr->∃c ok,fH mr fs R=some (c,ok)/\PT ar W k D0 c0 c/\(∀q x,x∈R.qo.getD q []->x∈c.qo.getD q [])/\(∀q x,x∈c.qo.getD q []->x∈R.qo.getD q []∨∃f∈fs,f.pred=q/\f.row=x)/\(ok=true->c.count<=mr/\∀f∈fs,Pj (zxy ar c) f.pred f.row)/\(ok=false->c.count>mr)
 |[],R,_,m,j=>⟨R,true,rfl,m,fun q x b=>b,fun q x b=>zf b,fun _=>⟨j,fun f e=>by cases e⟩,fun q=>by cases q⟩
 |f::fs,R,e,m,j=>by
  obtain⟨D,A,F⟩:=e f (by simp);obtain⟨u,ok,K,h,_,C,w,r,H,I⟩:=m.add v D A F j d;unfold fH;rw[K];cases ok with
  |false=>
   refine⟨u,false,rfl,h,w,fun q x b=>?_,(fun q=>by cases q),I⟩;rcases r q x b with z|⟨n,i⟩
   ·exact zf z
   ·exact ze ⟨f,by simp,n.symm,i.symm⟩
  |true=>
   simp only;obtain⟨G,l,J,p,t,y,s,L⟩:=AS v d fs u (fun x b=>e x (by simp[b])) h (H rfl);refine⟨G,l,J,p,fun q x b=>t q x (w q x b),fun q x b=>?_,fun q=>⟨(s q).1,fun g o=>?_⟩,L⟩
   ·rcases y q x b with z|⟨g,E,B⟩
    ·rcases r q x z with z|⟨n,i⟩
     ·exact zf z
     ·exact ze ⟨f,by simp,n.symm,i.symm⟩
    ·exact ze ⟨g,by simp[E],B⟩
   ·rcases zw.1 o with rfl|o
    ·exact h.grow p t C
    ·exact(s q).2 g o
structure rB (S:qU):Prop where
 small:∀a∈S.qj,a<=3
 facts:∀f∈S.facts,f.pred<S.qj.length/\Pp (S.qj.getD f.pred 0) f.row/\P6 (yn S.qf) f.row
 rules:rW S.rules S.qj (yn S.qf)
theorem Og(S:qU):vQ S.qj (yn S.qf) ⟨S.qj.map (yS S.qf),0,0,0,[]⟩:=by
 refine⟨by simp,fun p e=>?_,?_⟩
 ·have b:p<S.qj.length:=by simpa using e
  simp only[vO];refine⟨vf.new _ _,Dh _ _,by rw[nJ,Ph _ b],fun k g=>?_⟩;obtain⟨d,c⟩:=(qT _ k).1 g;rw[tS _ _ k (by rintro rfl;have:=(fm S.qj[p]).1;rw[nJ] at d;simp at d;omega)] at c;cases c
 ·show 0=_;rw[List.map_map];have:∀l:List Nat,(l.map ((fun T:zi=>T.count) ∘ yS S.qf)).sum=0:=by
   intro l;induction l with
   |nil=>rfl
   |cons a l f=>simp only[jx,mW,f];rfl
  exact(this _).symm
theorem oH(S:qU)(p:Nat)(x:zk):zxy S.qj ⟨S.qj.map (yS S.qf),0,0,0,[]⟩ p x=none:=by
 unfold zxy;split
 ·rename_i a;have b:p<(S.qj.map (yS S.qf)).length:=by simpa using a.1
  show xB ((S.qj.map (yS S.qf)).getD p zi.zero) x=none;rw[Ph _ b,vO,(vf.new _ _).mark x a.2.1,tS];intro e;have:=congrArg List.length e;rw[qa,a.2.1,nJ] at this;have:=fm S.qj[p];simp at *;omega
 ·rfl
theorem LW{S:qU}(h:rB S)(s:mr<=1048576):∃N,∀b,N<=b->∃d,pY b S mr mx=some d/\(d=none->z0c S mr mx=none)/\∀R,d=some R->vQ S.qj (yn S.qf) R/\R.count<=mr/\z0c S mr mx=some (zxy S.qj R,R.qx):=by
 obtain⟨B,k⟩:∃B,(∀r∈S.rules,f6 (yn S.qf) r<=B)/\3*(yn S.qf+1)<=B:=by
  have:∀y:List zr,∃B,∀r∈y,f6 (yn S.qf) r<=B:=by
   intro y;induction y with
   |nil=>exact⟨0,fun r g=>by cases g⟩
   |cons a y U=>
    obtain⟨B,k⟩:=U;refine⟨B+f6 (yn S.qf) a,fun r g=>?_⟩;rcases zw.1 g with rfl|g
    ·omega
    ·have:=k r g;omega
  obtain⟨B,k⟩:=this S.rules;exact⟨B+3*(yn S.qf+1),fun r g=>by have:=k r g;omega,by omega⟩
 refine⟨B+mx+1,fun b M=>?_⟩;have l:=PT.clear (Og S);have X:qv ⟨S.qj.map (yS S.qf),0,0,0,[]⟩=fC S:=rfl;obtain⟨R,ok,Z,j,a3,E,W,J⟩:=AS h.small s S.facts (fC S) h.facts l (zv _);have t:∀q x,x∉(fC S).qo.getD q []:=fun q x i=>by
  have v:x∈(List.replicate (S.qj.map (yS S.qf)).length ([]:List zk)).getD q []:=i;have:∀n,(List.replicate n ([]:List zk)).getD q []=[]:=fun n=>by by_cases V:q<n<;>simp[List.getD,V]
  rw[this] at v;cases v
 have o:∀p x,Pj (zxy S.qj R) p x->Pj (zzb S.facts) p x:=by
  intro p x i;unfold Pj at i ⊢;rw[j.abs,oH] at i;by_cases e:x∈R.qo.getD p []
  ·unfold zzb;rw[zb ((E p x e).resolve_left (t p x))];rfl
  ·rw[za e] at i;cases i
 unfold pY;rw[Z];cases ok with
 |false=>
  refine⟨none,rfl,fun _=>?_,fun R q=>by cases q⟩;unfold z0c;rw[za];rintro⟨m,m1,Q⟩;have:=pV (j.inv.card h.small) Q o;have:=J rfl;omega
 |true=>
  obtain⟨G,I⟩:=W rfl;have C:R.qx=0:=j.qx;have u:zxy S.qj R=zzb S.facts:=by
   funext p x;have z:=j.abs p x;rw[oH] at z;rw[z];unfold zzb;by_cases w:∃f∈S.facts,f.pred=p/\f.row=x
   ·rw[zb w];obtain⟨f,K,rfl,rfl⟩:=w;have:=I f K;unfold Pj at this;rw[z] at this;by_cases e:f.row∈R.qo.getD f.pred []
    ·rw[zb e]
    ·rw[za e] at this;cases this
   ·rw[za w,za];intro e;exact w ((E p x e).resolve_left (t p x))
  have A:nf (zzb S.facts) mr:=⟨R.count,G,by rw[←u];exact j.inv.card h.small⟩;obtain⟨P,D,T,H,F⟩:=J0 rfl h.small s (mx:=mx) h.rules B k b (by omega) S.qj.length 0 R j.inv G (by omega);simp only[T,jZ];rw[C,u] at H F;have c:z0c S mr mx=zx8 S.rules mr mx S.qj.length 0 0 (zzb S.facts):=by
   unfold z0c;rw[zb A]
  cases D with
  |false=>exact⟨none,rfl,fun _=>by rw[c];exact H rfl,fun R q=>by cases q⟩
  |true=>
   refine⟨some P,rfl,(fun q=>by cases q),fun R2 q=>?_⟩;simp only[zs] at q;subst q;obtain⟨L,O,Y⟩:=F rfl;exact⟨L,O,by rw[c];exact Y⟩
end
end Go.Proofs.YteampbddflhngaaGreat
